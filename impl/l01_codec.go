package impl

import (
	"errors"
	"strconv"
	"strings"
)

const MaxNumber = 999999999

const (
	maxNumberBytes = 5 // what MaxNumber takes
	maxFramed      = 60000
	sumFactor      = 131
	sumModulus     = 16381
	sumBytes       = 2
)

// codecFault is why a text can't be read, and where that was: the code, and the
// byte at which the reading stopped.
type codecFault struct{ code, at int }

func (f codecFault) Error() string {
	return CodeWord(f.code) + " at " + strconv.Itoa(f.at)
}

// faultCode is OK where there is no error: every reader here fails by a codecFault.
func faultCode(err error) int {
	var fault codecFault
	if errors.As(err, &fault) {
		return fault.code
	}
	return OK
}

func PackNumber(n int) (string, int) {
	if !numberOK(n) {
		return "", ErrRange
	}
	return string(appendNumber(nil, n)), OK
}

func numberOK(n int) bool {
	return 0 <= n && n <= MaxNumber
}

func appendNumber(out []byte, n int) []byte {
	for n >= 128 {
		out = append(out, byte(n%128+128))
		n /= 128
	}
	return append(out, byte(n))
}

func UnpackNumber(t string) (int, int, int) {
	if len(t) > MaxText {
		return 0, 0, ErrLong
	}
	n, end, err := readNumber(t, 0)
	return n, end, faultCode(err)
}

// readNumber reads the number that begins at a place, and tells where it ends.
func readNumber(t string, at int) (int, int, error) {
	size := numberSize(t[at:])
	if size == 0 {
		return 0, 0, codecFault{ErrForm, at}
	}
	last := at + size - 1
	if size > 1 && t[last] == 0 { // without it the number would be the same
		return 0, 0, codecFault{ErrForm, last}
	}
	n := 0
	for i := last; i >= at; i-- {
		n = n*128 + int(t[i]%128)
	}
	if !numberOK(n) {
		return 0, 0, codecFault{ErrForm, at}
	}
	return n, last + 1, nil
}

// numberSize is 0 if no number ends within the bytes that the greatest takes.
// A byte below 128 is a rune of its own wherever it stands, so a range over
// runes meets the first one at its own place.
func numberSize(t string) int {
	for at, r := range t[:min(len(t), maxNumberBytes)] {
		if r < 128 {
			return at + 1
		}
	}
	return 0
}

func PackList(list []int) (string, int) {
	if len(list) > MaxList {
		return "", ErrLong
	}
	out := appendNumber(nil, len(list))
	for _, n := range list {
		if !numberOK(n) {
			return "", ErrRange
		}
		out = appendNumber(out, n)
	}
	return string(out), OK
}

func UnpackList(t string) ([]int, int) {
	if len(t) > MaxText {
		return nil, ErrLong
	}
	list, err := readList(t)
	return list, faultCode(err)
}

func readList(t string) ([]int, error) {
	count, at, err := readNumber(t, 0)
	if err != nil {
		return nil, err
	}
	if count > MaxList {
		return nil, codecFault{ErrForm, 0}
	}
	list := make([]int, count)
	for i := range list {
		list[i], at, err = readNumber(t, at)
		if err != nil {
			return nil, err
		}
	}
	if at < len(t) {
		return nil, codecFault{ErrForm, at}
	}
	return list, nil
}

func SumOf(t string) int {
	if len(t) > MaxText {
		return 0
	}
	n := 1 + len(t)
	for i := range len(t) { // a range over t itself would step by runes
		n = (sumFactor*n + int(t[i])) % sumModulus
	}
	return n
}

func FrameText(t string) (string, int) {
	if len(t) > MaxText {
		return "", ErrLong
	}
	if len(t) > maxFramed {
		return "", ErrSize
	}
	sum := SumOf(t)
	out := append(appendNumber(nil, len(t)), byte(sum/256), byte(sum%256))
	return string(append(out, t...)), OK
}

func UnframeText(t string) (string, int, int) {
	if len(t) > MaxText {
		return "", 0, ErrLong
	}
	text, end, err := readFrame(t)
	return text, end, faultCode(err)
}

func readFrame(t string) (string, int, error) {
	size, at, err := readNumber(t, 0)
	if err != nil {
		return "", 0, err
	}
	begin := at + sumBytes
	end := begin + size
	if size > maxFramed || end > len(t) {
		return "", 0, codecFault{ErrForm, 0}
	}
	sum := int(t[at])*256 + int(t[at+1])
	if sum != SumOf(t[begin:end]) {
		return "", 0, codecFault{ErrSum, at}
	}
	return strings.Clone(t[begin:end]), end, nil
}
