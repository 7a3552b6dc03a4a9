package tests

import (
	"fmt"
	"math"
	"slices"
	"strings"
	"testing"

	"loop.example/g00632/impl"
)

// plainInstrs writes out every instruction with its text, from the words of the document.
func plainInstrs() map[impl.Instr]string {
	all := map[impl.Instr]string{}
	for r := range 2 {
		for v := range 4 {
			all[impl.Instr{Op: 1, A: r, B: v}] = fmt.Sprintf("load %d %d", r, v)
			all[impl.Instr{Op: 2, A: v, B: r}] = fmt.Sprintf("store %d %d", v, r)
		}
		for n := range 10 {
			all[impl.Instr{Op: 3, A: r, B: n}] = fmt.Sprintf("set %d %d", r, n)
			all[impl.Instr{Op: 4, A: r, B: n}] = fmt.Sprintf("add %d %d", r, n)
			all[impl.Instr{Op: 8, A: r, B: n}] = fmt.Sprintf("assert %d %d", r, n)
		}
		for place := 1; place <= 6; place++ {
			all[impl.Instr{Op: 7, A: r, B: place}] = fmt.Sprintf("jump %d %d", r, place)
		}
	}
	for l := range 2 {
		all[impl.Instr{Op: 5, A: l}] = fmt.Sprintf("lock %d", l)
		all[impl.Instr{Op: 6, A: l}] = fmt.Sprintf("unlock %d", l)
	}
	return all
}

var instrTexts = plainInstrs()

// sortedInstrs has them in an order that is the same each time.
func sortedInstrs() []impl.Instr {
	var list []impl.Instr
	for x := range instrTexts {
		list = append(list, x)
	}
	slices.SortFunc(list, func(x, y impl.Instr) int {
		return slices.Compare([]int{x.Op, x.A, x.B}, []int{y.Op, y.A, y.B})
	})
	return list
}

// instrsByText finds an instruction by its text, in which the blanks are single.
func instrsByText() map[string]impl.Instr {
	all := map[string]impl.Instr{}
	for x, text := range instrTexts {
		all[text] = x
	}
	return all
}

func singleBlanks(t string) string {
	var words []string
	for _, word := range strings.Split(t, " ") {
		if word != "" {
			words = append(words, word)
		}
	}
	return strings.Join(words, " ")
}

func plainProgramOK(p impl.Program) bool {
	if len(p.Code) != 3 {
		return false
	}
	for _, code := range p.Code {
		for at, x := range code {
			if _, ok := instrTexts[x]; !ok || x.Op == 7 && (x.B <= at || x.B > len(code)) {
				return false
			}
		}
		if len(code) > 6 {
			return false
		}
	}
	return true
}

func plainLines(p impl.Program) []string {
	var lines []string
	for k, code := range p.Code {
		for _, x := range code {
			lines = append(lines, fmt.Sprint(k)+" "+instrTexts[x])
		}
	}
	return lines
}

func plainNumbers(p impl.Program) []int {
	var list []int
	for _, code := range p.Code {
		list = append(list, len(code))
		for _, x := range code {
			list = append(list, x.Op, x.A, x.B)
		}
	}
	return list
}

// plainUnpack reads a program's bytes number by number.
func plainUnpack(t string) (impl.Program, bool) {
	count, at, code := plainRead(t)
	var list []int
	for code == impl.OK && at < len(t) {
		n, size, fault := plainRead(t[at:])
		list, at, code = append(list, n), at+size, fault
	}
	if code != impl.OK || len(list) != count {
		return impl.Program{}, false
	}
	p := impl.Program{}
	for len(list) > 0 {
		n := list[0]
		if n > (len(list)-1)/3 {
			return impl.Program{}, false
		}
		var instrs []impl.Instr
		for i := range n {
			instrs = append(instrs, impl.Instr{Op: list[1+3*i], A: list[2+3*i], B: list[3+3*i]})
		}
		p.Code = append(p.Code, instrs)
		list = list[1+3*n:]
	}
	return p, plainProgramOK(p)
}

func alike(p, q impl.Program) bool {
	return slices.EqualFunc(p.Code, q.Code, func(a, b []impl.Instr) bool { return slices.Equal(a, b) })
}

func setting(n int) []impl.Instr {
	code := make([]impl.Instr, n)
	for i := range code {
		code[i] = impl.Instr{Op: impl.OpSet, A: i % 2, B: i % 10}
	}
	return code
}

// rightPrograms has every three lengths, each instruction, and each jump that leads on.
func rightPrograms() []impl.Program {
	var all []impl.Program
	instrs := sortedInstrs()
	next := 0
	code := func(n int) []impl.Instr {
		list := make([]impl.Instr, n)
		for i := range list {
			list[i] = instrs[next%len(instrs)]
			next++
			if list[i].Op == impl.OpJump {
				list[i].B = i + 1 + next%(n-i)
			}
		}
		return list
	}
	for a := range 7 {
		for b := range 7 {
			for c := range 7 {
				all = append(all, impl.Program{Code: [][]impl.Instr{code(a), code(b), code(c)}})
			}
		}
	}
	for n := 1; n <= 6; n++ {
		for at := range n {
			for to := at + 1; to <= n; to++ {
				for k := range 3 {
					all = append(all, jumping(k, n, at, to))
				}
			}
		}
	}
	return all
}

// jumping is a program of which one thread has n instructions, one of them a jump.
func jumping(k, n, at, to int) impl.Program {
	p := impl.Program{Code: [][]impl.Instr{setting(2), nil, setting(1)}}
	p.Code[k] = setting(n)
	p.Code[k][at] = impl.Instr{Op: impl.OpJump, A: 1, B: to}
	return p
}

// wrongPrograms are wrong in one thing each.
func wrongPrograms() []impl.Program {
	all := []impl.Program{
		{}, {Code: [][]impl.Instr{}}, {Code: make([][]impl.Instr, 1)}, {Code: make([][]impl.Instr, 2)}, {Code: make([][]impl.Instr, 4)},
		{Code: make([][]impl.Instr, 5)}, {Code: make([][]impl.Instr, impl.MaxList+1)}, {Code: [][]impl.Instr{setting(1), setting(1)}},
		{Code: [][]impl.Instr{setting(1), setting(1), setting(1), setting(1)}},
	}
	for k := range 3 {
		for _, n := range []int{7, 8, impl.MaxList, impl.MaxList + 1} {
			p := impl.Program{Code: make([][]impl.Instr, 3)}
			p.Code[k] = setting(n)
			all = append(all, p)
		}
		for _, x := range wrongInstrs() {
			p := impl.Program{Code: [][]impl.Instr{setting(6), setting(6), setting(6)}}
			p.Code[k][5] = x
			all = append(all, p)
		}
		for n := 1; n <= 6; n++ {
			for at := range n {
				for to := -1; to <= 8; to++ {
					if to <= at || to > n {
						all = append(all, jumping(k, n, at, to))
					}
				}
			}
		}
	}
	return all
}

// wrongInstrs are one beyond a bound, or far from all of them.
func wrongInstrs() []impl.Instr {
	all := []impl.Instr{{}, {Op: -1}, {Op: 9}, {A: 1, B: 1}, {Op: 5, B: 1}, {Op: 5, B: -1}, {Op: 6, A: 1, B: 1}, {Op: 6, B: math.MaxInt}}
	greatest := map[int][2]int{1: {1, 3}, 2: {3, 1}, 3: {1, 9}, 4: {1, 9}, 5: {1, 0}, 6: {1, 0}, 7: {1, 6}, 8: {1, 9}}
	for op := 1; op <= 8; op++ {
		a, b := greatest[op][0], greatest[op][1]
		for _, wrong := range []int{math.MinInt, -1, a + 1, a + 1 + 1<<32, math.MaxInt} {
			all = append(all, impl.Instr{Op: op, A: wrong, B: b})
		}
		for _, wrong := range []int{math.MinInt, -1, b + 1, b + 1<<32, math.MaxInt} {
			all = append(all, impl.Instr{Op: op, A: a, B: wrong})
		}
		all = append(all, impl.Instr{Op: op + 1<<32, A: a, B: b}, impl.Instr{Op: -op, A: a, B: b})
	}
	return append(all, impl.Instr{Op: 7}, impl.Instr{Op: math.MinInt}, impl.Instr{Op: math.MaxInt})
}

func TestProgramsBoundsAreTheDocuments(t *testing.T) {
	if impl.Threads != 3 || impl.MaxCode != 6 || impl.Shared != 4 || impl.Locks != 2 || impl.Regs != 2 {
		t.Error(impl.Threads, impl.MaxCode, impl.Shared, impl.Locks, impl.Regs)
	}
	ops := []int{impl.OpLoad, impl.OpStore, impl.OpSet, impl.OpAdd, impl.OpLock, impl.OpUnlock, impl.OpJump, impl.OpAssert}
	if !slices.Equal(ops, []int{1, 2, 3, 4, 5, 6, 7, 8}) {
		t.Error(ops)
	}
}

func TestInstrsOfAllNumbers(t *testing.T) {
	if len(instrTexts) != 92 {
		t.Fatal(len(instrTexts))
	}
	for op := -2; op <= 12; op++ {
		for a := -2; a <= 12; a++ {
			for b := -2; b <= 12; b++ {
				x := impl.Instr{Op: op, A: a, B: b}
				text, ok := instrTexts[x]
				wantInstr(t, x, text, ok)
			}
		}
	}
	for _, x := range wrongInstrs() {
		wantInstr(t, x, "", false)
	}
}

func wantInstr(t *testing.T, x impl.Instr, want string, ok bool) {
	t.Helper()
	if impl.InstrOK(x) != ok {
		t.Errorf("InstrOK(%v) is not %v", x, ok)
	}
	wantCode := impl.OK
	if !ok {
		wantCode = impl.ErrBad
	}
	if text, code := impl.InstrText(x); text != want || code != wantCode {
		t.Errorf("InstrText(%v) = %q, %d, not %q, %d", x, text, code, want, wantCode)
	}
}

func TestInstrsAreReadBack(t *testing.T) {
	for _, x := range sortedInstrs() {
		text, _ := impl.InstrText(x)
		for _, t2 := range []string{text, " " + text, text + " ", "   " + strings.ReplaceAll(text, " ", "    ") + "  "} {
			if back, code := impl.ReadInstr(t2); back != x || code != impl.OK {
				t.Errorf("ReadInstr(%q) = %v, %d, not %v", t2, back, code, x)
			}
		}
	}
}

func wantReadInstr(t *testing.T, text string, all map[string]impl.Instr) {
	t.Helper()
	want, ok := all[singleBlanks(text)]
	wantCode := impl.OK
	if !ok {
		wantCode = impl.ErrForm
	}
	if x, code := impl.ReadInstr(text); x != want || code != wantCode {
		t.Errorf("ReadInstr(%q) = %v, %d, not %v, %d", text, x, code, want, wantCode)
	}
}

// Every text that is one byte away from an instruction's.
func TestInstrsOfBentTexts(t *testing.T) {
	all := instrsByText()
	for _, text := range []string{"load 1 3", "store 3 1", "set 0 9", "add 1 0", "lock 1", "unlock 0", "jump 0 6", "assert 1 9"} {
		for at := range len(text) + 1 {
			for n := range 256 {
				b := string([]byte{byte(n)})
				wantReadInstr(t, text[:at]+b+text[at:], all)
				if at < len(text) {
					wantReadInstr(t, text[:at]+b+text[at+1:], all)
				}
			}
			wantReadInstr(t, text[:at], all)
			wantReadInstr(t, text[at:], all)
			wantReadInstr(t, text[:max(at-1, 0)]+text[at:], all)
		}
	}
}

// Each word with each number of operands, and with numbers in all their wrong forms.
func TestInstrsOfWrongTexts(t *testing.T) {
	all := instrsByText()
	numbers := []string{"", "0", "1", "2", "3", "4", "5", "6", "7", "8", "9", "10", "11", "00", "01", "000", "09", "-0", "-1", "+1", "1.0", "0x1", "1e0", "1_0",
		"256", "4294967296", "18446744073709551616", "18446744073709551617", "999999999999999999", "1000000000000000000", "000000000000000000001",
		"x", "\u0661", "\uff11", "1\x00", "\xff", "\t1", "1\t", "1\n", "1,", "#"}
	words := []string{"", "load", "store", "set", "add", "lock", "unlock", "jump", "assert", "Load", "LOAD", "loa", "loadd", "what", "nop", "0", "1", "-", "#", "ſet", "\xffset"}
	for _, word := range words {
		for _, a := range numbers {
			for _, b := range numbers {
				wantReadInstr(t, word+" "+a+" "+b, all)
			}
			wantReadInstr(t, word+a, all)
			wantReadInstr(t, a+" "+word, all)
			wantReadInstr(t, word+" 0 "+a+" 0", all)
			wantReadInstr(t, word+" 1 1 "+a, all)
		}
	}
	for _, text := range []string{"", " ", "     ", "\t", "set\t0\t1", "set 0\u00a01", "set 0\u20031", "set 0 1\n", "\nset 0 1", "set 0 1\r", "set 0 1 # one",
		"set,0,1", "set 0 1;", "0 set 0 1", "set 0 1 set 0 1", "lock", "lock 0 0", "unlock 1 0", "load 0", "load 0 0 0", "\x00set 0 1", "set 0 1\x00"} {
		wantReadInstr(t, text, all)
	}
}

func TestInstrsAtTheBoundOfTexts(t *testing.T) {
	text := "set" + strings.Repeat(" ", impl.MaxText-6) + "1 7"
	if x, code := impl.ReadInstr(text); len(text) != impl.MaxText || x != (impl.Instr{Op: impl.OpSet, A: 1, B: 7}) || code != impl.OK {
		t.Error(len(text), x, code)
	}
	for text, want := range map[string]int{
		text + " ": impl.ErrLong, " " + text: impl.ErrLong, strings.Repeat(" ", impl.MaxText): impl.ErrForm,
		strings.Repeat(" ", impl.MaxText+1): impl.ErrLong, long(impl.MaxText): impl.ErrForm, long(impl.MaxText + 1): impl.ErrLong,
		strings.Repeat("0 ", impl.MaxText/2): impl.ErrForm, "set 0 " + strings.Repeat("9", impl.MaxText-6): impl.ErrForm,
	} {
		if x, code := impl.ReadInstr(text); x != (impl.Instr{}) || code != want {
			t.Errorf("ReadInstr of %d bytes %.20q = %v, %d, not %d", len(text), text, x, code, want)
		}
	}
}

func TestProgramsThatAreRight(t *testing.T) {
	for _, p := range rightPrograms() {
		if !plainProgramOK(p) || !impl.ProgramOK(p) {
			t.Errorf("ProgramOK(%v) is false", p)
		}
	}
	for _, p := range []impl.Program{{Code: make([][]impl.Instr, 3)}, {Code: [][]impl.Instr{{}, nil, {}}}} {
		if !impl.ProgramOK(p) {
			t.Errorf("ProgramOK(%v) is false", p)
		}
	}
}

func TestProgramsThatAreWrong(t *testing.T) {
	right := impl.Program{Code: make([][]impl.Instr, 3)}
	for i, p := range wrongPrograms() {
		if plainProgramOK(p) || impl.ProgramOK(p) {
			t.Errorf("ProgramOK of wrong program %d is true", i)
		}
		if lines, code := impl.ProgramText(p); len(lines) != 0 || code != impl.ErrBad {
			t.Errorf("ProgramText of wrong program %d = %.3q, %d", i, lines, code)
		}
		if packed, code := impl.PackProgram(p); packed != "" || code != impl.ErrBad {
			t.Errorf("PackProgram of wrong program %d = %.20x, %d", i, packed, code)
		}
		if impl.SameProgram(p, p) || impl.SameProgram(p, right) || impl.SameProgram(right, p) {
			t.Errorf("SameProgram of wrong program %d is true", i)
		}
	}
}

func wantProgram(t *testing.T, from any, p impl.Program, code int, want impl.Program) {
	t.Helper()
	if code != impl.OK || !alike(p, want) || len(p.Code) != 3 {
		t.Errorf("%.200q is read as %v, %d, not %v", from, p, code, want)
	}
}

func TestProgramsAreReadBackFromTheirTexts(t *testing.T) {
	for _, p := range rightPrograms() {
		lines, code := impl.ProgramText(p)
		if !slices.Equal(lines, plainLines(p)) || code != impl.OK {
			t.Errorf("ProgramText(%v) = %q, %d", p, lines, code)
		}
		back, code := impl.ReadProgram(lines)
		wantProgram(t, lines, back, code, p)
		mixed := inTurns(p)
		back, code = impl.ReadProgram(mixed)
		wantProgram(t, mixed, back, code, p)
	}
}

// inTurns tells a program's lines thread after thread, the last one first, one
// of each, with blanks and lines of blanks in their midst.
func inTurns(p impl.Program) []string {
	lines := []string{"", "   "}
	for at := range 6 {
		for k := 2; k >= 0; k-- {
			if at < len(p.Code[k]) {
				lines = append(lines, fmt.Sprintf("  %d   %s ", k, strings.ReplaceAll(instrTexts[p.Code[k][at]], " ", "  ")), " ")
			}
		}
	}
	return lines
}

func TestProgramsOfNoInstructions(t *testing.T) {
	empty := impl.Program{Code: make([][]impl.Instr, 3)}
	for _, lines := range [][]string{nil, {}, {""}, {" ", "", "    "}, make([]string, impl.MaxList)} {
		p, code := impl.ReadProgram(lines)
		wantProgram(t, len(lines), p, code, empty)
	}
	if lines, code := impl.ProgramText(empty); len(lines) != 0 || code != impl.OK {
		t.Error(lines, code)
	}
	if packed, code := impl.PackProgram(empty); packed != "\x03\x00\x00\x00" || code != impl.OK {
		t.Errorf("%x %d", packed, code)
	}
}

func wantNoProgram(t *testing.T, lines []string, want int) {
	t.Helper()
	if p, code := impl.ReadProgram(lines); len(p.Code) != 0 || code != want {
		t.Errorf("ReadProgram(%.300q) = %v, %d, not %d", lines, p, code, want)
	}
}

func TestProgramsOfLinesThatAreNone(t *testing.T) {
	wrong := []string{"3 set 0 0", "-1 set 0 0", "-0 set 0 0", "00 set 0 0", "01 set 0 0", "+0 set 0 0", "x set 0 0", "18446744073709551616 set 0 0", "4294967296 set 0 0",
		"\u0660 set 0 0", "set 0 0", "0", " 1 ", "0 what", "0 set", "0 set 0", "0 set 0 01", "0 set 0 10", "0 set 2 0", "0 set 0 0 0", "0 set -0 0", "0set 0 0", "0\tset 0 0",
		"0: set 0 0", "0 0 set 0 0", "0 lock 0 0", "0 lock 2", "0 lock", "0 jump 0 0", "0 jump 0 7", "0 load 0 4", "0 store 4 0", "\t", "\n", "\r", "\x00", "#", "# 0", "\u00a0", "\u3000",
		"0 set 0 0\n", "0 set 0 0 #", "0 SET 0 0", "\xff", "0 set 0 \xff", long(impl.MaxText + 1)}
	many := slices.Repeat([]string{"1 set 0 1"}, 7)
	for _, line := range wrong {
		wantNoProgram(t, []string{line}, impl.ErrForm)
		wantNoProgram(t, []string{"0 set 0 0", "", line, "1 set 0 0"}, impl.ErrForm)
		// what is no line counts ahead of what is no program
		wantNoProgram(t, append(slices.Clone(many), line), impl.ErrForm)
		wantNoProgram(t, []string{"0 jump 0 6", line}, impl.ErrForm)
		wantNoProgram(t, []string{line, "2 jump 1 3"}, impl.ErrForm)
	}
}

func TestProgramsOfLinesThatAreWrongTogether(t *testing.T) {
	for _, k := range []string{"0", "1", "2"} {
		full := slices.Repeat([]string{k + " set 0 1"}, 6)
		if p, code := impl.ReadProgram(full); code != impl.OK || len(plainLines(p)) != 6 {
			t.Error(p, code)
		}
		wantNoProgram(t, append(slices.Clone(full), k+" set 0 1"), impl.ErrBad)
		wantNoProgram(t, slices.Repeat([]string{k + " set 0 1"}, impl.MaxList), impl.ErrBad)
	}
	for n := 1; n <= 6; n++ {
		for at := range n {
			for to := 1; to <= 6; to++ {
				lines := slices.Repeat([]string{"2 lock 1"}, n)
				lines[at] = fmt.Sprint("2 jump 0 ", to)
				if at < to && to <= n {
					p, code := impl.ReadProgram(lines)
					want := impl.Program{Code: [][]impl.Instr{nil, nil, slices.Repeat([]impl.Instr{{Op: impl.OpLock, A: 1}}, n)}}
					want.Code[2][at] = impl.Instr{Op: impl.OpJump, B: to}
					wantProgram(t, lines, p, code, want)
				} else {
					wantNoProgram(t, lines, impl.ErrBad)
				}
			}
		}
	}
	// another thread's code gives a jump no room
	wantNoProgram(t, []string{"0 jump 0 2", "1 set 0 0", "1 set 0 0"}, impl.ErrBad)
}

func TestProgramsAtTheBoundsOfListsAndTexts(t *testing.T) {
	lines := make([]string, impl.MaxList)
	lines[impl.MaxList-1] = "1 unlock 1"
	want := impl.Program{Code: [][]impl.Instr{nil, {{Op: impl.OpUnlock, A: 1}}, nil}}
	p, code := impl.ReadProgram(lines)
	wantProgram(t, len(lines), p, code, want)
	wantNoProgram(t, append(slices.Clone(lines), ""), impl.ErrLong)
	wantNoProgram(t, append(slices.Clone(lines), "no line"), impl.ErrLong)
	wantNoProgram(t, slices.Repeat([]string{"0 set 0 1"}, impl.MaxList+1), impl.ErrLong)
	// a line within a list is a text that has no bound of its own
	wide := "1" + strings.Repeat(" ", impl.MaxText) + "unlock 1" + strings.Repeat(" ", impl.MaxText)
	p, code = impl.ReadProgram([]string{wide, strings.Repeat(" ", impl.MaxText+1)})
	wantProgram(t, len(wide), p, code, want)
}

func TestProgramsAreReadBackFromTheirBytes(t *testing.T) {
	for _, p := range rightPrograms() {
		packed, code := impl.PackProgram(p)
		if packed != plainList(plainNumbers(p)) || code != impl.OK {
			t.Errorf("PackProgram(%v) = %x, %d", p, packed, code)
		}
		back, code := impl.UnpackProgram(packed)
		wantProgram(t, packed, back, code, p)
	}
}

func wantNoBytes(t *testing.T, text string, want int) {
	t.Helper()
	if p, code := impl.UnpackProgram(text); len(p.Code) != 0 || code != want {
		t.Errorf("UnpackProgram(%.60x) = %v, %d, not %d", text, p, code, want)
	}
}

func wantPlainUnpack(t *testing.T, text string) {
	t.Helper()
	want, ok := plainUnpack(text)
	if !ok {
		wantNoBytes(t, text, impl.ErrForm)
		return
	}
	p, code := impl.UnpackProgram(text)
	wantProgram(t, text, p, code, want)
}

func TestProgramsOfBentBytes(t *testing.T) {
	programs := rightPrograms()
	for i := 0; i < len(programs); i += 17 {
		packed := plainList(plainNumbers(programs[i]))
		for at := range len(packed) {
			wantNoBytes(t, packed[:at], impl.ErrForm)
			for n := range 256 {
				b := string([]byte{byte(n)})
				wantPlainUnpack(t, packed[:at]+b+packed[at+1:])
			}
			wantPlainUnpack(t, packed[:at]+packed[at+1:])
			wantPlainUnpack(t, packed[:at]+"\x00"+packed[at:])
			// more bytes than a number takes
			wantNoBytes(t, packed[:at]+string([]byte{packed[at] | 128})+"\x00"+packed[at+1:], impl.ErrForm)
		}
		for _, rest := range []string{"\x00", "\x80", "a", packed} {
			wantNoBytes(t, packed+rest, impl.ErrForm)
		}
	}
}

func TestProgramsOfListsThatAreWrong(t *testing.T) {
	for _, p := range wrongPrograms() {
		list := plainNumbers(p)
		if len(list) <= impl.MaxList && len(list) == len(slices.DeleteFunc(slices.Clone(list), func(n int) bool { return n < 0 || n > impl.MaxNumber })) {
			wantNoBytes(t, plainList(list), impl.ErrForm)
		}
	}
	lists := [][]int{nil, {0}, {0, 0}, {0, 0, 0, 0}, {1, 0, 0}, {1, 3, 0, 0}, {1, 3, 0, 0, 0}, {2, 3, 0, 0, 0, 0}, {0, 0, 1}, {0, 0, 1, 3}, {0, 0, 1, 3, 0}, {0, 0, 1, 3, 0, 0, 0},
		{7, 0, 0}, {impl.MaxNumber, 0, 0}, {0, impl.MaxNumber, 0}, {0, 0, impl.MaxNumber}, {1 << 20, 0, 0}, {0, 0, 1, impl.MaxNumber, 0, 0}, {0, 0, 1, 3, impl.MaxNumber, 0},
		{0, 0, 1, 3, 0, impl.MaxNumber}, make([]int, impl.MaxList)}
	for _, list := range lists {
		wantNoBytes(t, plainList(list), impl.ErrForm)
	}
}

func TestProgramsAtTheBoundOfBytes(t *testing.T) {
	right := "\x03\x00\x00\x00"
	for _, fill := range []string{"\x00", "\x80", "a"} {
		wantNoBytes(t, right+strings.Repeat(fill, impl.MaxText-4), impl.ErrForm)
		wantNoBytes(t, right+strings.Repeat(fill, impl.MaxText-3), impl.ErrLong)
	}
}

func TestProgramsThatAreAlike(t *testing.T) {
	programs := rightPrograms()
	for i, p := range programs {
		q := programs[(i*7+1)%len(programs)]
		if !impl.SameProgram(p, cloned(p)) || impl.SameProgram(p, q) != alike(p, q) {
			t.Errorf("SameProgram of %v and %v", p, q)
		}
		for k, code := range p.Code {
			for at := range code {
				for _, x := range []impl.Instr{{Op: impl.OpSet, A: 1, B: 8}, {Op: impl.OpStore, A: 3, B: 0}} {
					other := cloned(p)
					other.Code[k][at] = x
					if impl.SameProgram(p, other) != (impl.ProgramOK(other) && code[at] == x) {
						t.Errorf("SameProgram of %v and %v", p, other)
					}
				}
			}
		}
	}
	for a := range 7 {
		for b := range 7 {
			p := impl.Program{Code: [][]impl.Instr{nil, setting(a), nil}}
			q := impl.Program{Code: [][]impl.Instr{{}, setting(b), {}}}
			if impl.SameProgram(p, q) != (a == b) || impl.SameProgram(p, impl.Program{Code: [][]impl.Instr{nil, nil, setting(b)}}) != (a == 0 && b == 0) {
				t.Error("SameProgram", a, b)
			}
		}
	}
}

func cloned(p impl.Program) impl.Program {
	q := impl.Program{}
	for _, code := range p.Code {
		q.Code = append(q.Code, slices.Clone(code))
	}
	return q
}
