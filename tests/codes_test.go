package tests

import (
	"math"
	"strings"
	"testing"

	"loop.example/g00632/impl"
)

var codeTable = []struct {
	number, constant int
	word             string
}{
	{0, impl.OK, "ok"},
	{1, impl.ErrBad, "bad"},
	{2, impl.ErrLong, "long"},
	{3, impl.ErrForm, "form"},
	{4, impl.ErrRange, "range"},
	{5, impl.ErrNone, "none"},
	{6, impl.ErrMany, "many"},
	{7, impl.ErrFull, "full"},
	{8, impl.ErrSize, "size"},
	{9, impl.ErrSum, "sum"},
	{10, impl.ErrDone, "done"},
	{11, impl.ErrBlocked, "blocked"},
	{12, impl.ErrAssert, "assert"},
	{13, impl.ErrFault, "fault"},
	{14, impl.ErrDeadlock, "deadlock"},
	{15, impl.ErrBudget, "budget"},
	{16, impl.ErrDown, "down"},
	{17, impl.ErrUp, "up"},
	{18, impl.ErrTorn, "torn"},
	{19, impl.ErrVersion, "version"},
}

func TestBoundsAreTheDocuments(t *testing.T) {
	if impl.MaxText != 65536 || impl.MaxList != 4096 || impl.MaxName != 40 || impl.MaxNumber != 999999999 {
		t.Error(impl.MaxText, impl.MaxList, impl.MaxName, impl.MaxNumber)
	}
}

func TestCodesHaveTheirWords(t *testing.T) {
	for _, row := range codeTable {
		if row.constant != row.number {
			t.Errorf("the code of %q is %d, not %d", row.word, row.constant, row.number)
		}
		if word := impl.CodeWord(row.number); word != row.word {
			t.Errorf("CodeWord(%d) = %q, not %q", row.number, word, row.word)
		}
		if code := impl.CodeOf(row.word); code != row.number {
			t.Errorf("CodeOf(%q) = %d, not %d", row.word, code, row.number)
		}
	}
}

func TestOtherNumbersHaveNoWord(t *testing.T) {
	for _, n := range []int{-1, -2, 20, 21, 255, 256, math.MinInt, math.MaxInt} {
		if word := impl.CodeWord(n); word != "" {
			t.Errorf("CodeWord(%d) = %q", n, word)
		}
	}
}

func TestOtherTextsHaveNoCode(t *testing.T) {
	texts := []string{"", "OK", "Ok", "o", "okk", " ok", "ok ", "ok\x00", "ok\n", "error", "0", "\xff", "bad long",
		long(impl.MaxText), long(impl.MaxText + 1), "ok" + long(impl.MaxText)}
	for _, text := range texts {
		if code := impl.CodeOf(text); code != -1 {
			t.Errorf("CodeOf of %d bytes %.20q = %d", len(text), text, code)
		}
	}
}

func TestNamesOfEveryByte(t *testing.T) {
	const letters = "abcdefghijklmnopqrstuvwxyzABCDEFGHIJKLMNOPQRSTUVWXYZ_"
	const digits = "0123456789"
	for n := range 256 {
		b := string([]byte{byte(n)})
		first := strings.Contains(letters, b)
		later := strings.Contains(letters+digits, b)
		if impl.NameOK(b) != first || impl.NameOK(b+"a") != first {
			t.Errorf("byte %d as the first of a name", n)
		}
		if impl.NameOK("a"+b) != later || impl.NameOK("_"+b+"9") != later {
			t.Errorf("byte %d behind the first of a name", n)
		}
	}
}

func TestNamesAtTheirBounds(t *testing.T) {
	for _, name := range []string{"a", "_", "Z", "a0", "_9", "main_2", long(impl.MaxName - 1), long(impl.MaxName)} {
		if !impl.NameOK(name) {
			t.Errorf("%q is a name", name)
		}
	}
	wrong := []string{"", "0", "9a", "a-b", "a b", " a", "a ", "é", "aé", "a\xc3", "\u212a", "a\u0660",
		long(impl.MaxName + 1), long(impl.MaxName) + "-", long(impl.MaxText), long(impl.MaxText + 1)}
	for _, text := range wrong {
		if impl.NameOK(text) {
			t.Errorf("%d bytes %.50q are no name", len(text), text)
		}
	}
}

// long is a text of n bytes, each of them a letter.
func long(n int) string {
	return strings.Repeat("a", n)
}
