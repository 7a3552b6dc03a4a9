package tests

import (
	"fmt"
	"math"
	"slices"
	"strings"
	"testing"

	"loop.example/g00632/impl"
)

// everyBug and bugTexts are made once, as many of the plain rules ask for them.
var everyBug, bugTexts = makeBugs()

// plainBugs has every bug that there is, in order, with its text.
func plainBugs() ([]impl.Bug, []string) {
	return slices.Clone(everyBug), slices.Clone(bugTexts)
}

func makeBugs() ([]impl.Bug, []string) {
	var bugs []impl.Bug
	var texts []string
	for kind, word := range []string{12: "assert", 13: "fault"} {
		if word == "" {
			continue
		}
		for k := range 3 {
			for pc := range 6 {
				bugs = append(bugs, impl.Bug{Kind: kind, Thread: k, Pc: pc})
				texts = append(texts, fmt.Sprint(word, " ", k, " ", pc))
			}
		}
	}
	return append(bugs, impl.Bug{Kind: 14}), append(texts, "deadlock")
}

// wrongBugs are one beyond a bound, or far from all of them.
func wrongBugs() []impl.Bug {
	var all []impl.Bug
	for _, kind := range []int{math.MinInt, -14, -1, 0, 1, 2, 3, 4, 5, 6, 7, 8, 9, 10, 11, 15, 16, 17, 18, 19, 20, 12 + 1<<32, math.MaxInt} {
		all = append(all, impl.Bug{Kind: kind}, impl.Bug{Kind: kind, Thread: 2, Pc: 5})
	}
	for _, n := range []int{math.MinInt, -1 << 32, -1, 6, 7, 1 << 32, math.MaxInt} {
		for _, kind := range []int{12, 13, 14} {
			all = append(all, impl.Bug{Kind: kind, Thread: n}, impl.Bug{Kind: kind, Pc: n}, impl.Bug{Kind: kind, Thread: n, Pc: n})
		}
	}
	for n := 1; n <= 6; n++ {
		all = append(all, impl.Bug{Kind: 14, Thread: n}, impl.Bug{Kind: 14, Pc: n}, impl.Bug{Kind: 14, Thread: n, Pc: n})
	}
	for n := 3; n <= 6; n++ {
		all = append(all, impl.Bug{Kind: 12, Thread: n}, impl.Bug{Kind: 13, Thread: n, Pc: 5})
	}
	return all
}

// plainMerge picks from all bugs, in order, those that one of the lists has.
func plainMerge(lists ...[]impl.Bug) []impl.Bug {
	var out []impl.Bug
	all := slices.Concat(lists...)
	for _, b := range everyBug {
		if slices.Contains(all, b) {
			out = append(out, b)
		}
	}
	return out
}

// plainRun goes from key to key by plainStep, up to the first step that has a code.
func plainRun(p impl.Program, list []int) (string, []impl.Bug, int) {
	key := newKey
	var found []impl.Bug
	code := 0
	for _, k := range list {
		if k < 0 || k > 2 {
			code = 4
			break
		}
		next, kind, stepCode := plainStep(p, key, k)
		if stepCode != 0 {
			code = stepCode
			break
		}
		found = append(found, impl.Bug{Kind: kind, Thread: k, Pc: int(key[k] - '0')})
		key = next
	}
	if plainStuck(p, key) {
		found = append(found, impl.Bug{Kind: 14})
	}
	return key, plainMerge(found), code
}

// wantRun holds a run, and who is a witness by it, against the plain one.
func wantRun(t *testing.T, p impl.Program, list []int) (string, []impl.Bug, int) {
	t.Helper()
	key, bugs, code := plainRun(p, list)
	s, gotBugs, gotCode := impl.RunSchedule(p, list)
	if keyOfVm(s) != key || !slices.Equal(gotBugs, bugs) || gotCode != code {
		t.Errorf("RunSchedule(%v, %v) = %v, %v, %d, not %s, %v, %d", p, list, s, gotBugs, gotCode, key, bugs, code)
	}
	all, _ := plainBugs()
	for i, b := range all {
		if (i+len(list))%3 != 0 && !slices.Contains(bugs, b) {
			continue
		}
		ok, witnessCode := impl.IsWitness(p, list, b)
		if ok != (code == 0 && slices.Contains(bugs, b)) || witnessCode != 0 {
			t.Errorf("IsWitness(%v, %v, %v) = %v, %d", p, list, b, ok, witnessCode)
		}
	}
	return key, bugs, code
}

func TestBugsOfAllNumbers(t *testing.T) {
	right, _ := plainBugs()
	if len(right) != 37 {
		t.Fatal("not all bugs are there")
	}
	for kind := -2; kind <= 22; kind++ {
		for k := -2; k <= 5; k++ {
			for pc := -2; pc <= 8; pc++ {
				b := impl.Bug{Kind: kind, Thread: k, Pc: pc}
				if impl.BugOK(b) != slices.Contains(right, b) {
					t.Errorf("BugOK(%v) = %v", b, impl.BugOK(b))
				}
			}
		}
	}
	for _, b := range wrongBugs() {
		if impl.BugOK(b) {
			t.Errorf("BugOK(%v) is true", b)
		}
		if text, code := impl.BugText(b); text != "" || code != impl.ErrBad {
			t.Errorf("BugText(%v) = %q, %d", b, text, code)
		}
	}
}

func TestBugsAreReadBackFromTheirTexts(t *testing.T) {
	bugs, texts := plainBugs()
	for i, b := range bugs {
		text, code := impl.BugText(b)
		if text != texts[i] || code != 0 || !impl.BugOK(b) {
			t.Errorf("BugText(%v) = %q, %d, not %q", b, text, code, texts[i])
		}
		if back, code := impl.ReadBug(texts[i]); back != b || code != 0 {
			t.Errorf("ReadBug(%q) = %v, %d", texts[i], back, code)
		}
	}
	for text, b := range map[string]impl.Bug{
		"assert 0 3": {Kind: impl.ErrAssert, Pc: 3}, "fault 1 0": {Kind: impl.ErrFault, Thread: 1}, "deadlock": {Kind: impl.ErrDeadlock},
		"assert 0 0": {Kind: impl.ErrAssert}, "fault 2 5": {Kind: impl.ErrFault, Thread: 2, Pc: 5},
	} {
		if got, code := impl.BugText(b); got != text || code != 0 {
			t.Errorf("BugText(%v) = %q, %d", b, got, code)
		}
	}
}

// wantReadBug asks for a bug of just the texts that bugs have.
func wantReadBug(t *testing.T, text string) {
	t.Helper()
	bugs, texts := plainBugs()
	want, wantCode := impl.Bug{}, impl.ErrForm
	if at := slices.Index(texts, text); at >= 0 {
		want, wantCode = bugs[at], 0
	}
	if b, code := impl.ReadBug(text); b != want || code != wantCode {
		t.Errorf("ReadBug(%.40q) = %v, %d, not %v, %d", text, b, code, want, wantCode)
	}
}

// Every byte at every place, every byte left out, blanks and digits put in between.
func TestBugsOfBentTexts(t *testing.T) {
	for _, text := range []string{"assert 0 3", "assert 2 5", "fault 1 0", "fault 0 5", "deadlock"} {
		for i := range len(text) {
			for n := range 256 {
				wantReadBug(t, text[:i]+string([]byte{byte(n)})+text[i+1:])
			}
			wantReadBug(t, text[:i])
			wantReadBug(t, text[i+1:])
			wantReadBug(t, text[:i]+text[i+1:])
		}
		for i := range len(text) + 1 {
			for _, more := range []string{" ", "  ", "0", "1", "-", "+", "\t", "\n", "\x00", ".", "\u00a0", " 0", "0 ", " 0 ", "00"} {
				wantReadBug(t, text[:i]+more+text[i:])
			}
		}
		wantReadBug(t, strings.ToUpper(text))
		wantReadBug(t, text+" "+text)
	}
}

func TestBugsOfWrongTexts(t *testing.T) {
	for _, text := range []string{
		"", " ", "  ", "0", "0 0", "0 0 0", "12 0 0", "14", "assert", "fault", "assert 0", "fault 1", "assert  0", "assert 0 ", "assert 0 0 0",
		"deadlock 0", "deadlock 0 0", "deadlock  ", " deadlock", "deadlock deadlock", "ok", "ok 0 0", "bad 0 0", "budget 0 0", "done 0 0", "blocked 0 0", "blocked",
		"assert 00 0", "assert 0 00", "assert 0 05", "assert 01 0", "fault 02 1", "assert -0 0", "assert 0 -0", "assert 0 -1", "assert -1 0", "assert +0 0",
		"assert 3 0", "assert 0 6", "fault 3 5", "fault 2 6", "fault 2 10", "assert 10 0", "assert 0 999999999999999999", "assert 0 1000000000000000000",
		"assert 0 18446744073709551616", "assert 18446744073709551617 0", "assert 0 4294967296", "assert a 0", "assert 0 a", "assert 0,0", "assert 0x0 0",
		"assert 0 3\n", "assert\t0\t3", "assert 0\t3", "\u0061ssert 0 \u0663", "assert 0 \uff13", "assert:0:3", "asser 0 0", "asserts 0 0", "Assert 0 0",
		strings.Repeat("0", 18), "assert " + strings.Repeat("0", 18) + " 0",
	} {
		if _, texts := plainBugs(); slices.Contains(texts, text) {
			t.Fatalf("%q is a bug's text", text)
		}
		wantReadBug(t, text)
	}
	for _, word := range []string{"ok", "bad", "long", "form", "range", "none", "many", "full", "size", "sum", "done", "blocked", "budget", "down", "up", "torn", "version", "gap", "x"} {
		for _, rest := range []string{"", " 0 0", " 2 5"} {
			wantReadBug(t, word+rest)
		}
	}
}

func TestBugsAtTheBoundOfTexts(t *testing.T) {
	for _, text := range []string{"assert 0 3", "deadlock", "", "x"} {
		for _, fill := range []string{" ", "0", "\xff"} {
			behind := text + strings.Repeat(fill, impl.MaxText-len(text))
			ahead := strings.Repeat(fill, impl.MaxText-len(text)) + text
			for _, full := range []string{behind, ahead} {
				if b, code := impl.ReadBug(full); b != (impl.Bug{}) || code != impl.ErrForm {
					t.Errorf("ReadBug of %d bytes = %v, %d", len(full), b, code)
				}
				if b, code := impl.ReadBug(full + fill); b != (impl.Bug{}) || code != impl.ErrLong {
					t.Errorf("ReadBug of %d bytes = %v, %d", len(full)+1, b, code)
				}
			}
		}
	}
}

// someBugs goes by a plain rule: bugs in no order, many of them more than once.
func someBugs(n, seed int) []impl.Bug {
	all, _ := plainBugs()
	list := make([]impl.Bug, n)
	for i := range list {
		list[i] = all[(i*i*7+seed*11+i*seed)%len(all)]
	}
	return list
}

func wantMerged(t *testing.T, a, b []impl.Bug) {
	t.Helper()
	want := plainMerge(a, b)
	for _, pair := range [][2][]impl.Bug{{a, b}, {b, a}} {
		if got, code := impl.MergeBugs(pair[0], pair[1]); !slices.Equal(got, want) || code != 0 {
			t.Errorf("MergeBugs(%v, %v) = %v, %d, not %v", pair[0], pair[1], got, code, want)
		}
	}
}

func TestBugsAreMergedInOrder(t *testing.T) {
	all, _ := plainBugs()
	backward := slices.Clone(all)
	slices.Reverse(backward)
	for _, list := range [][]impl.Bug{nil, {}, all, backward, all[:18], all[18:], all[36:], all[10:30], slices.Concat(all, backward, all)} {
		wantMerged(t, list, nil)
		wantMerged(t, list, list)
		wantMerged(t, list, backward)
		wantMerged(t, list, all[5:25])
		wantMerged(t, list, []impl.Bug{})
	}
	for n := range 40 {
		wantMerged(t, someBugs(n, n), someBugs(n*2%17, n+5))
		wantMerged(t, someBugs(n, 3), nil)
	}
	for _, x := range all {
		for _, y := range all {
			wantMerged(t, []impl.Bug{x}, []impl.Bug{y})
			wantMerged(t, []impl.Bug{x, y, x}, []impl.Bug{y})
		}
	}
}

// The order by hand: kinds ahead of threads, these ahead of places.
func TestOrderOfBugsByHand(t *testing.T) {
	want := []impl.Bug{
		{Kind: 12, Thread: 0, Pc: 5}, {Kind: 12, Thread: 1, Pc: 0}, {Kind: 12, Thread: 1, Pc: 4}, {Kind: 12, Thread: 2, Pc: 1},
		{Kind: 13, Thread: 0, Pc: 0}, {Kind: 13, Thread: 0, Pc: 3}, {Kind: 13, Thread: 2, Pc: 0}, {Kind: 14},
	}
	a := []impl.Bug{want[7], want[2], want[5], want[0]}
	b := []impl.Bug{want[6], want[4], want[3], want[2], want[1], want[7]}
	if got, code := impl.MergeBugs(a, b); !slices.Equal(got, want) || code != 0 {
		t.Errorf("MergeBugs = %v, %d", got, code)
	}
}

func TestMergesOfWrongBugs(t *testing.T) {
	right := someBugs(9, 4)
	for i, wrong := range wrongBugs() {
		for _, at := range []int{0, i % 9, 9} {
			bent := slices.Insert(slices.Clone(right), at, wrong)
			for _, pair := range [][2][]impl.Bug{{bent, nil}, {nil, bent}, {bent, right}, {right, bent}, {bent, bent}} {
				if got, code := impl.MergeBugs(pair[0], pair[1]); len(got) != 0 || code != impl.ErrBad {
					t.Errorf("MergeBugs with %v at %d = %v, %d", wrong, at, got, code)
				}
			}
		}
	}
}

func TestMergesAtTheBoundOfLists(t *testing.T) {
	full, beyond := someBugs(impl.MaxList, 1), someBugs(impl.MaxList+1, 1)
	wantMerged(t, full, full)
	wantMerged(t, full, nil)
	wrong := make([]impl.Bug, 3)
	for _, pair := range [][2][]impl.Bug{{beyond, nil}, {nil, beyond}, {beyond, beyond}, {beyond, full}, {wrong, beyond}, {beyond, wrong}, {make([]impl.Bug, impl.MaxList+1), nil}} {
		if got, code := impl.MergeBugs(pair[0], pair[1]); len(got) != 0 || code != impl.ErrLong {
			t.Errorf("MergeBugs of %d and %d = %v, %d", len(pair[0]), len(pair[1]), got, code)
		}
	}
	if got, code := impl.MergeBugs(make([]impl.Bug, impl.MaxList), nil); len(got) != 0 || code != impl.ErrBad {
		t.Errorf("MergeBugs of wrong ones = %v, %d", got, code)
	}
}

// Runs written out by hand.
func TestRunsByHand(t *testing.T) {
	deadlock := impl.Bug{Kind: impl.ErrDeadlock}
	for _, row := range []struct {
		lines string
		list  []int
		key   string
		bugs  []impl.Bug
		code  int
	}{
		{"", nil, newKey, nil, 0},
		{"", []int{0}, newKey, nil, impl.ErrDone},
		{"", []int{3, 0}, newKey, nil, impl.ErrRange},
		{"0 set 0 5;0 store 1 0;2 load 1 1", []int{0, 0, 2}, "201" + "0500" + "00" + "500005", nil, 0},
		{"0 set 0 5;0 store 1 0;2 load 1 1", []int{2, 0, 0}, "201" + "0500" + "00" + "500000", nil, 0},
		{"0 set 0 5;0 store 1 0;2 load 1 1", nil, newKey, nil, 0},
		// behind a bug it goes on, and the next steps count
		{"0 assert 0 1;0 set 0 7;0 assert 0 6;1 unlock 0;1 lock 0", []int{0, 0, 1, 1, 0}, "320" + "0000" + "20" + "700000",
			[]impl.Bug{{Kind: 12}, {Kind: 12, Pc: 2}, {Kind: 13, Thread: 1}}, 0},
		// the order is by kind, thread, place, not by when it was found
		{"0 assert 0 1;1 unlock 0;1 assert 1 3;2 assert 0 9", []int{2, 1, 1, 0}, "121" + "0000" + "00" + "000000",
			[]impl.Bug{{Kind: 12}, {Kind: 12, Thread: 1, Pc: 1}, {Kind: 12, Thread: 2}, {Kind: 13, Thread: 1}}, 0},
		{"2 unlock 1;2 assert 0 1", []int{2, 2}, "002" + "0000" + "00" + "000000", []impl.Bug{{Kind: 12, Thread: 2, Pc: 1}, {Kind: 13, Thread: 2}}, 0},
		// places at both bounds
		{"2 assert 1 9;2 set 0 0;2 set 0 0;2 set 0 0;2 set 0 0;2 unlock 1", []int{2, 2, 2, 2, 2, 2}, "006" + "0000" + "00" + "000000",
			[]impl.Bug{{Kind: 12, Thread: 2}, {Kind: 13, Thread: 2, Pc: 5}}, 0},
		// stuck at once, and stuck at last
		{"0 lock 0;0 lock 0", []int{0}, "100" + "0000" + "10" + "000000", []impl.Bug{deadlock}, 0},
		{"0 lock 0;0 lock 0", nil, newKey, nil, 0},
		{"0 lock 0;1 lock 0", []int{1}, "010" + "0000" + "20" + "000000", []impl.Bug{deadlock}, 0},
		{"0 unlock 1;0 lock 1;1 lock 1", []int{1, 0}, "110" + "0000" + "02" + "000000", []impl.Bug{{Kind: 13}, deadlock}, 0},
		// stuck, and somebody would go on all the same
		{"0 unlock 1;0 lock 1;1 lock 1", []int{1, 0, 0}, "110" + "0000" + "02" + "000000", []impl.Bug{{Kind: 13}, deadlock}, impl.ErrBlocked},
		{"0 unlock 1;0 lock 1;1 lock 1", []int{1, 0, 1}, "110" + "0000" + "02" + "000000", []impl.Bug{{Kind: 13}, deadlock}, impl.ErrDone},
		{"0 unlock 1;0 lock 1;1 lock 1", []int{1, 0, -1}, "110" + "0000" + "02" + "000000", []impl.Bug{{Kind: 13}, deadlock}, impl.ErrRange},
		// with a code: what it came to so far
		{"0 assert 0 1;1 lock 0;2 lock 0", []int{0, 0, 1}, "100" + "0000" + "00" + "000000", []impl.Bug{{Kind: 12}}, impl.ErrDone},
		{"0 assert 0 1;1 lock 0;2 lock 0", []int{1, 2, 0}, "010" + "0000" + "20" + "000000", nil, impl.ErrBlocked},
		{"0 assert 0 1;1 lock 0;2 lock 0", []int{0, 3, 1}, "100" + "0000" + "00" + "000000", []impl.Bug{{Kind: 12}}, impl.ErrRange},
		{"0 assert 0 1;1 lock 0;2 lock 0", []int{math.MinInt, 0}, newKey, nil, impl.ErrRange},
		// the first step that can't be taken gives the code
		{"0 assert 0 1;1 lock 0;2 lock 0", []int{0, 0, 3}, "100" + "0000" + "00" + "000000", []impl.Bug{{Kind: 12}}, impl.ErrDone},
		{"0 assert 0 1;1 lock 0;2 lock 0", []int{1, 2, 3, 1}, "010" + "0000" + "20" + "000000", nil, impl.ErrBlocked},
		{"0 assert 0 1;1 lock 0;2 lock 0", []int{1, 2, 1}, "010" + "0000" + "20" + "000000", nil, impl.ErrBlocked},
	} {
		p, readCode := impl.ReadProgram(strings.Split(row.lines, ";"))
		if readCode != 0 {
			t.Fatalf("%q is no program: %d", row.lines, readCode)
		}
		s, bugs, code := impl.RunSchedule(p, row.list)
		if keyOfVm(s) != row.key || !slices.Equal(bugs, row.bugs) || code != row.code {
			t.Errorf("RunSchedule(%q, %v) = %v, %v, %d", row.lines, row.list, s, bugs, code)
		}
		wantRun(t, p, row.list)
	}
}

// wantRunBySteps is the promise itself: a schedule comes to where StepVm comes.
func wantRunBySteps(t *testing.T, p impl.Program, list []int) {
	t.Helper()
	s, code := impl.NewVm(), 0
	for _, k := range list {
		next, _, stepCode := impl.StepVm(p, s, k)
		if stepCode != 0 {
			code = stepCode
			break
		}
		s = next
	}
	if got, _, gotCode := impl.RunSchedule(p, list); gotCode != code || !impl.SameVm(got, s) {
		t.Errorf("RunSchedule(%v, %v) = %v, %d, not %v, %d", p, list, got, gotCode, s, code)
	}
}

// mixedSchedule goes by a plain rule; now and then a thread is out of bounds.
func mixedSchedule(n, seed int) []int {
	list := make([]int, n)
	for i := range list {
		list[i] = (seed + i*i + i*seed/3) % 3
		if seed%7 == 6 && i == seed%19 {
			list[i] = []int{3, -1, math.MaxInt, math.MinInt}[seed%4]
		}
	}
	return list
}

// turns goes round among the threads that can, so that it comes to an end of all.
func turns(p impl.Program, seed int) []int {
	var list []int
	key := newKey
	for can := plainEnabled(p, key); len(can) > 0; can = plainEnabled(p, key) {
		k := can[(seed+len(list)*seed/2)%len(can)]
		list = append(list, k)
		key, _, _ = plainStep(p, key, k)
	}
	return list
}

// closePrograms go by a plain rule among a few instructions, so that their
// threads meet at the same locks and places again and again.
func closePrograms() []impl.Program {
	few := []impl.Instr{{Op: 5}, {Op: 6}, {Op: 5, A: 1}, {Op: 6, A: 1}, {Op: 1, B: 2}, {Op: 2, A: 2}, {Op: 4, B: 1}, {Op: 8, B: 1}, {Op: 5}, {Op: 1}, {Op: 2, B: 1}, {Op: 7, B: 6}}
	var all []impl.Program
	state := uint32(7)
	for i := range 300 {
		p := impl.Program{Code: make([][]impl.Instr, 3)}
		for k := range 3 {
			for range (i/(k+1))%6 + 1 {
				state = state*1664525 + 1013904223
				x := few[state>>20%uint32(len(few))]
				p.Code[k] = append(p.Code[k], x)
			}
			for at, x := range p.Code[k] {
				if x.Op == 7 { // to the end, whatever came behind it
					p.Code[k][at].B = len(p.Code[k])
				}
			}
		}
		all = append(all, p)
	}
	return all
}

func TestRunsOfManyPrograms(t *testing.T) {
	met := map[int]int{}
	for i, p := range append(rightPrograms(), closePrograms()...) {
		for seed := range 4 {
			list := turns(p, i+seed)
			_, bugs, code := wantRun(t, p, list)
			if code != 0 {
				t.Errorf("%v does not run: %d", list, code)
			}
			for _, b := range bugs {
				met[b.Kind]++
			}
			wantRunBySteps(t, p, list)
			for _, more := range []int{0, 1, 2, 3, -1} {
				wantRun(t, p, append(slices.Clone(list), more, 0))
			}
			wantRun(t, p, list[:len(list)/2])
			mixed := mixedSchedule((i+seed)%20, i*5+seed)
			_, _, code = wantRun(t, p, mixed)
			wantRunBySteps(t, p, mixed)
			met[code]++
		}
	}
	for _, kind := range []int{0, impl.ErrRange, impl.ErrDone, impl.ErrBlocked, impl.ErrAssert, impl.ErrFault, impl.ErrDeadlock} {
		if met[kind] < 5 {
			t.Errorf("hardly any %d: %v", kind, met)
		}
	}
}

// All schedules of some programs, also those of wrong threads and of steps that can't be taken.
func TestRunsInAllOrders(t *testing.T) {
	for _, p := range stillPrograms(t) {
		lists := [][]int{nil}
		for len(lists) > 0 {
			list := lists[0]
			lists = lists[1:]
			_, _, code := wantRun(t, p, list)
			if code != 0 || len(list) >= 6 {
				continue
			}
			for _, k := range []int{-1, 0, 1, 2, 3} {
				lists = append(lists, append(slices.Clone(list), k))
			}
		}
	}
}

func TestRunsOfWrongPrograms(t *testing.T) {
	for i, p := range wrongPrograms() {
		for _, list := range [][]int{nil, {0}, {2, 2}, {-1}, {3, 0}, counted(impl.MaxList)} {
			if s, bugs, code := impl.RunSchedule(p, list); !isZeroVm(s) || len(bugs) != 0 || code != impl.ErrBad {
				t.Errorf("RunSchedule of wrong program %d = %v, %v, %d", i, s, bugs, code)
			}
			for _, b := range []impl.Bug{{}, {Kind: impl.ErrDeadlock}, {Kind: impl.ErrAssert}} {
				if ok, code := impl.IsWitness(p, list, b); ok || code != impl.ErrBad {
					t.Errorf("IsWitness of wrong program %d = %v, %d", i, ok, code)
				}
			}
		}
	}
}

func TestWitnessesOfWrongBugs(t *testing.T) {
	p := stillPrograms(t)[1]
	for _, b := range wrongBugs() {
		for _, list := range [][]int{nil, {0}, {2}, {2, 0}, {2, 2}, {-1}, {0, 0}} {
			if ok, code := impl.IsWitness(p, list, b); ok || code != impl.ErrBad {
				t.Errorf("IsWitness of %v by %v = %v, %d", b, list, ok, code)
			}
		}
	}
}

func TestWitnessesByHand(t *testing.T) {
	p, _ := impl.ReadProgram([]string{"0 lock 0", "0 lock 0", "1 assert 0 1", "1 set 0 1", "2 unlock 1"})
	assert, fault, deadlock := impl.Bug{Kind: 12, Thread: 1}, impl.Bug{Kind: 13, Thread: 2}, impl.Bug{Kind: 14}
	for _, row := range []struct {
		list []int
		b    impl.Bug
		want bool
	}{
		{nil, assert, false}, {nil, deadlock, false}, {[]int{1}, assert, true}, {[]int{1}, fault, false}, {[]int{2}, fault, true}, {[]int{2}, assert, false},
		{[]int{1, 1, 2, 0}, assert, true}, {[]int{1, 1, 2, 0}, fault, true}, {[]int{1, 1, 2, 0}, deadlock, true}, {[]int{0, 1, 2}, deadlock, false},
		// found, but it does not run to its end
		{[]int{1, 1, 1}, assert, false}, {[]int{2, 2}, fault, false}, {[]int{1, 3}, assert, false}, {[]int{1, 0, 0}, assert, false},
		{[]int{1, 1, 2, 0, 0}, deadlock, false}, {[]int{1, 1, 2, 0, 1}, deadlock, false}, {[]int{1, 1, 2, 0, -1}, deadlock, false},
		// another thread's, another place's
		{[]int{1}, impl.Bug{Kind: 12, Thread: 2}, false}, {[]int{1}, impl.Bug{Kind: 12, Thread: 1, Pc: 1}, false}, {[]int{1}, impl.Bug{Kind: 13, Thread: 1}, false},
	} {
		if ok, code := impl.IsWitness(p, row.list, row.b); ok != row.want || code != 0 {
			t.Errorf("IsWitness(%v, %v) = %v, %d", row.list, row.b, ok, code)
		}
	}
}

func TestRunsAtTheBoundOfLists(t *testing.T) {
	p, _ := impl.ReadProgram([]string{"1 assert 0 1", "2 set 0 1"})
	assert := impl.Bug{Kind: 12, Thread: 1}
	full := slices.Repeat([]int{1}, impl.MaxList)
	if s, bugs, code := impl.RunSchedule(p, full); keyOfVm(s) != "010000000000000" || !slices.Equal(bugs, []impl.Bug{assert}) || code != impl.ErrDone {
		t.Errorf("RunSchedule of MaxList steps = %v, %v, %d", s, bugs, code)
	}
	if ok, code := impl.IsWitness(p, full, assert); ok || code != 0 {
		t.Errorf("IsWitness of MaxList steps = %v, %d", ok, code)
	}
	for _, list := range [][]int{append(full, 1), make([]int, impl.MaxList+1), slices.Repeat([]int{-1}, impl.MaxList+1)} {
		for _, p := range []impl.Program{p, {}} {
			if s, bugs, code := impl.RunSchedule(p, list); !isZeroVm(s) || len(bugs) != 0 || code != impl.ErrLong {
				t.Errorf("RunSchedule of %d steps = %v, %v, %d", len(list), s, bugs, code)
			}
			for _, b := range []impl.Bug{assert, {}} {
				if ok, code := impl.IsWitness(p, list, b); ok || code != impl.ErrLong {
					t.Errorf("IsWitness of %d steps = %v, %d", len(list), ok, code)
				}
			}
		}
	}
}
