package tests

import (
	"math"
	"slices"
	"strings"
	"testing"

	"loop.example/g00632/impl"
)

// plainNumber writes a number's bytes as the document says it, from the lowest
// seven bits on.
func plainNumber(n int) string {
	var out []byte
	for {
		low := byte(n & 127)
		n >>= 7
		if n == 0 {
			return string(append(out, low))
		}
		out = append(out, low|128)
	}
}

// plainRead finds the number at the beginning of a text: of all its beginnings,
// the one that plainNumber writes.
func plainRead(t string) (n, size, code int) {
	for i := 0; i < len(t) && i < 5; i++ {
		n |= int(t[i]&127) << (7 * i)
		if t[i] < 128 {
			if n > 999999999 || plainNumber(n) != t[:i+1] {
				return 0, 0, impl.ErrForm
			}
			return n, i + 1, impl.OK
		}
	}
	return 0, 0, impl.ErrForm
}

func plainList(list []int) string {
	out := plainNumber(len(list))
	for _, n := range list {
		out += plainNumber(n)
	}
	return out
}

func plainSum(t string) int {
	n := 1 + len(t)
	for _, b := range []byte(t) {
		n = (131*n + int(b)) % 16381
	}
	return n
}

func plainFrame(t string) string {
	sum := plainSum(t)
	return plainNumber(len(t)) + string([]byte{byte(sum >> 8), byte(sum)}) + t
}

// edgeNumbers are those where the count of bytes turns, and their neighbours.
func edgeNumbers() []int {
	list := []int{0, 1, 2, 300, 16450, 60000, 60001, 65536, impl.MaxNumber - 1, impl.MaxNumber}
	for power := 128; power < impl.MaxNumber; power *= 128 {
		list = append(list, power-1, power, power+1, 2*power)
	}
	return list
}

func TestNumbersAreReadBack(t *testing.T) {
	for _, n := range edgeNumbers() {
		packed, code := impl.PackNumber(n)
		if packed != plainNumber(n) || code != impl.OK {
			t.Errorf("PackNumber(%d) = %x, %d", n, packed, code)
		}
		for _, rest := range []string{"", "\x00", "\x80", "\xff\xff", "text"} {
			if back, size, code := impl.UnpackNumber(packed + rest); back != n || size != len(packed) || code != impl.OK {
				t.Errorf("UnpackNumber(%x) = %d, %d, %d", packed+rest, back, size, code)
			}
		}
		for i := range len(packed) {
			wantNoNumber(t, packed[:i], impl.ErrForm)
		}
	}
}

func TestNumbersOutOfBounds(t *testing.T) {
	for _, n := range []int{-1, -128, impl.MaxNumber + 1, 1 << 32, 1 << 35, math.MinInt, math.MaxInt} {
		if packed, code := impl.PackNumber(n); packed != "" || code != impl.ErrRange {
			t.Errorf("PackNumber(%d) = %x, %d", n, packed, code)
		}
	}
}

func wantNoNumber(t *testing.T, text string, want int) {
	t.Helper()
	if n, size, code := impl.UnpackNumber(text); n != 0 || size != 0 || code != want {
		t.Errorf("UnpackNumber(%.20x) = %d, %d, %d, not %d", text, n, size, code, want)
	}
}

func TestNumbersWithMoreBytesThanTheyTake(t *testing.T) {
	for _, n := range []int{0, 1, 127, 128, 16383, 16384, 2097152} {
		text := []byte(plainNumber(n))
		for len(text) < 8 {
			text[len(text)-1] |= 128
			text = append(text, 0)
			wantNoNumber(t, string(text), impl.ErrForm)
			wantNoNumber(t, string(text)+"\x01", impl.ErrForm)
		}
	}
}

func TestNumbersThatAreTooGreat(t *testing.T) {
	greater := []string{plainNumber(impl.MaxNumber + 1), plainNumber(1<<35 - 1), plainNumber(1 << 35), plainNumber(1 << 62),
		plainNumber(1<<32 + 5), "\x85" + strings.Repeat("\x80", 8) + "\x02", // 5, if 32 or 64 bits went round
		strings.Repeat("\x80", 9) + "\x01", strings.Repeat("\xff", 20) + "\x01", strings.Repeat("\x80", impl.MaxText)}
	for _, text := range greater {
		wantNoNumber(t, text, impl.ErrForm)
	}
}

// The bytes stand for: noughts, ends, goings-on, and such as begin and carry on
// the runes of two, three and four bytes.
func TestNumbersFromNoOtherBytes(t *testing.T) {
	edges := []byte{0, 1, 3, 127, 128, 129, 0xbf, 0xc2, 0xe2, 0xf0, 255}
	texts := []string{""}
	wantPlainRead(t, "")
	for range 5 {
		var next []string
		for _, text := range texts {
			for _, b := range edges {
				next = append(next, text+string([]byte{b}))
			}
		}
		texts = next
		for _, text := range texts {
			wantPlainRead(t, text)
		}
	}
	for first := range 256 {
		for second := range 256 {
			wantPlainRead(t, string([]byte{byte(first), byte(second)}))
		}
	}
}

func wantPlainRead(t *testing.T, text string) {
	t.Helper()
	n, size, code := impl.UnpackNumber(text)
	wantN, wantSize, wantCode := plainRead(text)
	if n != wantN || size != wantSize || code != wantCode {
		t.Errorf("UnpackNumber(%x) = %d, %d, %d, not %d, %d, %d", text, n, size, code, wantN, wantSize, wantCode)
	}
}

func TestNumbersAtTheBoundOfTexts(t *testing.T) {
	text := "\xac\x02" + long(impl.MaxText-2)
	if n, size, code := impl.UnpackNumber(text); n != 300 || size != 2 || code != impl.OK {
		t.Error(n, size, code)
	}
	wantNoNumber(t, text+"a", impl.ErrLong)
	wantNoNumber(t, strings.Repeat("\x80", impl.MaxText+1), impl.ErrLong)
}

func TestListsAreReadBack(t *testing.T) {
	lists := [][]int{nil, {}, {0}, {0, 0, 0}, {5, 300, 0}, edgeNumbers(), counted(127), counted(128), counted(impl.MaxList)}
	for _, list := range lists {
		packed, code := impl.PackList(list)
		if packed != plainList(list) || code != impl.OK {
			t.Errorf("PackList of %d numbers = %.20x, %d", len(list), packed, code)
		}
		if back, code := impl.UnpackList(packed); !slices.Equal(back, list) || code != impl.OK {
			t.Errorf("UnpackList(%.20x) has %d numbers, not %d: %d", packed, len(back), len(list), code)
		}
		for i := range min(len(packed), 300) {
			wantNoList(t, packed[:i], impl.ErrForm)
			wantNoList(t, packed[:len(packed)-1-i], impl.ErrForm)
		}
		for _, rest := range []string{"\x00", "\x80", "a"} {
			wantNoList(t, packed+rest, impl.ErrForm)
		}
	}
}

// counted is a list of n numbers, some of one byte and some of two.
func counted(n int) []int {
	list := make([]int, n)
	for i := range list {
		list[i] = i
	}
	return list
}

func wantNoList(t *testing.T, text string, want int) {
	t.Helper()
	if list, code := impl.UnpackList(text); len(list) != 0 || code != want {
		t.Errorf("UnpackList(%.20x) has %d numbers: %d, not %d", text, len(list), code, want)
	}
}

func TestListsThatCannotBePacked(t *testing.T) {
	beyond := counted(impl.MaxList + 1)
	wrongToo := counted(impl.MaxList + 1)
	wrongToo[0] = -1
	for _, list := range [][]int{beyond, wrongToo} {
		if packed, code := impl.PackList(list); packed != "" || code != impl.ErrLong {
			t.Errorf("PackList of %d numbers = %.20x, %d", len(list), packed, code)
		}
	}
	for _, list := range [][]int{{-1}, {1, 2, impl.MaxNumber + 1}, {math.MinInt, 0}, {0, math.MaxInt, 0}} {
		if packed, code := impl.PackList(list); packed != "" || code != impl.ErrRange {
			t.Errorf("PackList(%v) = %x, %d", list, packed, code)
		}
	}
}

func TestListsFromNoOtherBytes(t *testing.T) {
	wrong := []string{
		"", "\x80", "\x80\x00", "\x81\x00\x05", "\x01\x85\x00", "\x02\x05", "\x02\x05\x80", "\x01\x80\x94\xeb\xdc\x03", "\x00\x00",
		"\xff\x93\xeb\xdc\x03", "\xff\xff\xff\xff\xff\x01", plainNumber(1 << 62),
		plainList(counted(impl.MaxList + 1)), plainNumber(impl.MaxList + 1),
	}
	for _, text := range wrong {
		wantNoList(t, text, impl.ErrForm)
	}
	for first := range 256 {
		for second := range 256 {
			for _, third := range []byte{0, 1, 128} {
				wantListOrNone(t, string([]byte{byte(first), byte(second), third}))
			}
		}
	}
}

// wantListOrNone asks that what is read is packed to just the text again.
func wantListOrNone(t *testing.T, text string) {
	t.Helper()
	list, code := impl.UnpackList(text)
	if code == impl.OK && plainList(list) != text || code != impl.OK && (code != impl.ErrForm || len(list) != 0) {
		t.Errorf("UnpackList(%x) = %v, %d", text, list, code)
	}
}

func TestListsAtTheBoundOfTexts(t *testing.T) {
	wantNoList(t, "\x01\x05"+long(impl.MaxText-2), impl.ErrForm)
	wantNoList(t, "\x01\x05"+long(impl.MaxText-1), impl.ErrLong)
	wantNoList(t, strings.Repeat("\x80", impl.MaxText+1), impl.ErrLong)
}

// sumTexts has texts whose bytes are runes, parts of runes, and neither.
func sumTexts() []string {
	texts := []string{"", "a", "ab", "\x00", "\x00\x00", "\xff", "é", "€uro", "\xf0\x9f\x98\x80", "\xc3", "a\xe2\x82b"}
	var all []byte
	for n := range 256 {
		all = append(all, byte(n))
	}
	return append(texts, string(all), strings.Repeat(string(all), 60), strings.Repeat("\xff", 16379), strings.Repeat("\xff", 16380), strings.Repeat("\x00", 16381))
}

func TestSums(t *testing.T) {
	texts := append(sumTexts(), long(60000), long(impl.MaxText), strings.Repeat("\xff", impl.MaxText))
	for _, text := range texts {
		if sum := impl.SumOf(text); sum != plainSum(text) {
			t.Errorf("SumOf of %d bytes %.20q = %d, not %d", len(text), text, sum, plainSum(text))
		}
	}
	for _, n := range []int{impl.MaxText + 1, 2 * impl.MaxText} {
		if sum := impl.SumOf(long(n)); sum != 0 {
			t.Errorf("SumOf of %d bytes = %d", n, sum)
		}
	}
}

func TestFramesGiveTheirTextsBack(t *testing.T) {
	texts := append(sumTexts(), long(127), long(128), long(59999), long(60000), strings.Repeat("\x80", 60000))
	for _, text := range texts {
		frame, code := impl.FrameText(text)
		if frame != plainFrame(text) || code != impl.OK {
			t.Errorf("FrameText of %d bytes %.20q = %.20x, %d", len(text), text, frame, code)
		}
		for _, rest := range []string{"", "\x00", "\xff", "rest", frame[:min(len(frame), 100)]} {
			if back, size, code := impl.UnframeText(frame + rest); back != text || size != len(frame) || code != impl.OK {
				t.Errorf("UnframeText(%.20x) has %d bytes of %d: %d", frame, len(back), size, code)
			}
		}
		for i := range min(len(frame), 300) {
			wantNoFrame(t, frame[:i], impl.ErrForm)
			wantNoFrame(t, frame[:len(frame)-1-i], impl.ErrForm)
		}
	}
}

func wantNoFrame(t *testing.T, text string, want int) {
	t.Helper()
	if back, size, code := impl.UnframeText(text); back != "" || size != 0 || code != want {
		t.Errorf("UnframeText(%.20x) has %d bytes of %d: %d, not %d", text, len(back), size, code, want)
	}
}

func TestTextsThatAreTooLongForAFrame(t *testing.T) {
	for n, want := range map[int]int{60001: impl.ErrSize, impl.MaxText: impl.ErrSize, impl.MaxText + 1: impl.ErrLong} {
		if frame, code := impl.FrameText(long(n)); frame != "" || code != want {
			t.Errorf("FrameText of %d bytes = %.20x, %d, not %d", n, frame, code, want)
		}
	}
	wantNoFrame(t, plainFrame(long(60001)), impl.ErrForm)
	wantNoFrame(t, "\xe1\xd4\x03\x00\x00"+long(60001), impl.ErrForm)
}

func TestFramesAtTheBoundOfTexts(t *testing.T) {
	frame := plainFrame("ab") + long(impl.MaxText-5)
	if text, size, code := impl.UnframeText(frame); text != "ab" || size != 5 || code != impl.OK {
		t.Error(text, size, code)
	}
	wantNoFrame(t, frame+"a", impl.ErrLong)
	wantNoFrame(t, plainFrame(long(impl.MaxText)), impl.ErrLong)
	wantNoFrame(t, strings.Repeat("\x80", impl.MaxText+1), impl.ErrLong)
}

func TestFramesOfOtherBytesAreNone(t *testing.T) {
	for _, text := range []string{"a", "ab", "é", "\x00\xff\x80", "a text of some words"} {
		frame := plainFrame(text)
		for at := 1; at < len(frame); at++ {
			for other := range 256 {
				changed := []byte(frame)
				changed[at] = byte(other)
				if string(changed) != frame {
					wantNoFrame(t, string(changed), impl.ErrSum)
				}
			}
		}
	}
}

func TestFramesOfAlikeSums(t *testing.T) {
	one, other := "\x01\x83", "\x02\x00" // 131 times 1 and 131; 131 times 2 and 0
	if impl.SumOf(one) != impl.SumOf(other) {
		t.Fatal(impl.SumOf(one), impl.SumOf(other))
	}
	frame, _ := impl.FrameText(one)
	changed := strings.TrimSuffix(frame, one) + other
	if text, size, code := impl.UnframeText(changed); text != other || size != len(frame) || code != impl.OK {
		t.Errorf("UnframeText(%x) = %x, %d, %d", changed, text, size, code)
	}
}

func TestFramesOfWrongLengths(t *testing.T) {
	for _, text := range []string{"", "\x00", "\x02", "\x00\x00", "\x80\x00\x00\x01", "\x82\x00\x3b\x29ab", "\x03\x3b\x29ab",
		"\xff\x93\xeb\xdc\x03\x00\x00", "\xff\xff\xff\xff\xff\x01\x00\x00", plainNumber(1<<62) + "\x00\x00"} {
		wantNoFrame(t, text, impl.ErrForm)
	}
	for _, text := range []string{"\x01\x3b\x29ab", "\x00\x3b\x29ab", "\x00\x00\x00", "\x00\x01\x00", "\x00\x40\x00"} {
		wantNoFrame(t, text, impl.ErrSum)
	}
	// a sum that is right only modulo 16381
	wantNoFrame(t, "\x00\x3f\xfe", impl.ErrSum)
}
