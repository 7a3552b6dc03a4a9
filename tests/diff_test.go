package tests

import (
	"fmt"
	"slices"
	"testing"

	"loop.example/g00632/impl"
)

// plainSites has the text of what is at each item, row by row as plainItems.
func plainSites(p impl.Program, texts map[impl.Instr]string) [3][7]string {
	var sites [3][7]string
	for k := range sites {
		for pc := range sites[k] {
			sites[k][pc] = "nothing"
		}
		for pc, x := range p.Code[k] {
			sites[k][pc] = texts[x]
		}
	}
	return sites
}

// plainDiff holds texts against texts: no two instructions have one text.
func plainDiff(p, q impl.Program, texts map[impl.Instr]string) ([]int, []string) {
	var items []int
	var lines []string
	was, now := plainSites(p, texts), plainSites(q, texts)
	for k, row := range plainItems {
		for pc, item := range row {
			if was[k][pc] != now[k][pc] {
				items = append(items, item)
				lines = append(lines, fmt.Sprintf("%d %d: %s -> %s", k, pc, was[k][pc], now[k][pc]))
			}
		}
	}
	return items, lines
}

// versionsOf are near to a program: another instruction at a place, a place more or
// less, no code at all, two codes that change places, and all of this at once.
func versionsOf(p impl.Program, seed int) []impl.Program {
	instrs := sortedInstrs()
	all := []impl.Program{cloned(p)}
	change := func(turn func(q *impl.Program)) {
		q := cloned(p)
		turn(&q)
		if plainProgramOK(q) {
			all = append(all, q)
		}
	}
	other := func(i int) impl.Instr { return instrs[(seed*31+i*17)%len(instrs)] }
	for k := range 3 {
		for pc := range p.Code[k] {
			change(func(q *impl.Program) { q.Code[k][pc] = other(pc) })
			change(func(q *impl.Program) { q.Code[k][pc].B++ })
		}
		change(func(q *impl.Program) { q.Code[k] = q.Code[k][:max(len(q.Code[k])-1, 0)] })
		change(func(q *impl.Program) { q.Code[k] = append(q.Code[k], other(k)) })
		change(func(q *impl.Program) { q.Code[k] = nil })
		change(func(q *impl.Program) { q.Code[k], q.Code[(k+1)%3] = q.Code[(k+1)%3], q.Code[k] })
		change(func(q *impl.Program) { q.Code[k] = setting(6) })
	}
	change(func(q *impl.Program) { q.Code = [][]impl.Instr{setting(6), setting(6), setting(6)} })
	change(func(q *impl.Program) { q.Code = make([][]impl.Instr, 3) })
	return all
}

func wantAgree(t *testing.T, p, q impl.Program, foot []int, want bool) {
	t.Helper()
	if ok, code := impl.AgreeOn(p, q, foot); ok != want || code != 0 {
		t.Errorf("AgreeOn(%v, %v, %.80v) = %v, %d, not %v", p, q, foot, ok, code, want)
	}
}

func wantDiff(t *testing.T, p, q impl.Program, items []int, lines []string) {
	t.Helper()
	if list, code := impl.ChangedItems(p, q); !slices.Equal(list, items) || code != 0 {
		t.Errorf("ChangedItems(%v, %v) = %v, %d, not %v", p, q, list, code, items)
	}
	if list, code := impl.DiffText(p, q); !slices.Equal(list, lines) || code != 0 {
		t.Errorf("DiffText(%v, %v) = %q, %d, not %q", p, q, list, code, lines)
	}
}

// wantAgreements asks of each item alone, and of many of them, in any order.
func wantAgreements(t *testing.T, p, q impl.Program, changed []int) {
	t.Helper()
	var rest []int
	for _, item := range everyItem() {
		meets := slices.Contains(changed, item)
		if !meets {
			rest = append(rest, item)
		}
		wantAgree(t, p, q, []int{item}, !meets)
		wantAgree(t, p, q, []int{item, item, item}, !meets)
	}
	wantAgree(t, p, q, nil, true)
	wantAgree(t, p, q, []int{}, true)
	wantAgree(t, p, q, changed, len(changed) == 0)
	wantAgree(t, p, q, everyItem(), len(changed) == 0)
	wantAgree(t, p, q, rest, true)
	back := slices.Repeat(rest, 3)
	slices.Reverse(back)
	wantAgree(t, p, q, back, true)
	if len(changed) > 0 {
		wantAgree(t, p, q, append(back, changed[0]), false)
		wantAgree(t, p, q, append([]int{changed[len(changed)-1]}, back...), false)
	}
}

func TestVersionsOfManyPrograms(t *testing.T) {
	texts := plainInstrs()
	count := map[int]int{}
	for i, p := range slices.Concat(stillPrograms(t), rightPrograms(), closePrograms(), racingPrograms()) {
		for j, q := range versionsOf(p, i) {
			items, lines := plainDiff(p, q, texts)
			back, backLines := plainDiff(q, p, texts)
			wantDiff(t, p, q, items, lines)
			wantDiff(t, q, p, back, backLines)
			if (i+j)%7 == 0 {
				wantAgreements(t, p, q, items)
				wantAgreements(t, q, p, items)
			}
			count[len(items)]++
		}
	}
	for n := range 19 {
		if count[n] < 10 {
			t.Errorf("hardly any versions of %d changes: %v", n, count)
		}
	}
}

func TestVersionsOfProgramsThatAreFarFromOneAnother(t *testing.T) {
	texts := plainInstrs()
	all := rightPrograms()
	for i, p := range all {
		for j := range 4 {
			q := all[(i*37+j*101+5)%len(all)]
			items, lines := plainDiff(p, q, texts)
			wantDiff(t, p, q, items, lines)
			same := impl.SameProgram(p, q)
			if same != (len(items) == 0) {
				t.Errorf("%v and %v are the same: %v; changed: %v", p, q, same, items)
			}
		}
	}
}

func TestVersionsOfEachInstruction(t *testing.T) {
	texts := plainInstrs()
	instrs := sortedInstrs()
	for i, x := range instrs {
		for j := range 3 {
			y := instrs[(i+j*j*29)%len(instrs)]
			p, q := setProgram(6, 6, 6), setProgram(6, 6, 6)
			p.Code[j][0], q.Code[j][0] = x, y
			if x == y {
				wantDiff(t, p, q, nil, nil)
				continue
			}
			wantDiff(t, p, q, []int{8 * j}, []string{fmt.Sprintf("%d 0: %s -> %s", j, texts[x], texts[y])})
		}
		p, q := programOf(t, "1 set 0 1"), programOf(t, "1 set 0 1")
		p.Code[1] = append(setting(0), x)
		if plainProgramOK(p) {
			q.Code[1] = nil
			wantDiff(t, p, q, []int{8}, []string{"1 0: " + texts[x] + " -> nothing"})
			wantDiff(t, q, p, []int{8}, []string{"1 0: nothing -> " + texts[x]})
		}
	}
}

// Of two lengths just the places between them are changed: an end alone is none.
func TestVersionsOfAllLengths(t *testing.T) {
	for a := range 7 {
		for b := range 7 {
			for k := range 3 {
				var lengths, others [3]int
				lengths[k], others[k] = a, b
				lengths[(k+1)%3], others[(k+1)%3] = 3, 3
				p, q := setProgram(lengths[0], lengths[1], lengths[2]), setProgram(others[0], others[1], others[2])
				want := plainItems[k][min(a, b):max(a, b)]
				if list, code := impl.ChangedItems(p, q); !slices.Equal(list, want) || code != 0 {
					t.Errorf("of %v and %v ChangedItems = %v, %d, not %v", lengths, others, list, code, want)
				}
				wantAgree(t, p, q, []int{plainItems[k][6]}, true)
			}
		}
	}
}

func TestVersionsByHand(t *testing.T) {
	full := "0 set 0 1;0 set 0 2;0 set 0 3;0 set 0 4;0 set 0 5;0 set 0 6"
	last := "2 set 0 1;2 set 0 2;2 set 0 3;2 set 0 4;2 set 0 5;2 set 0 "
	for _, row := range []struct {
		p, q  string
		items []int
		lines []string
	}{
		{"", "", nil, nil},
		{full, full, nil, nil},
		{"0 set 0 1;1 set 0 1", "1 set 0 1;0 set 0 1", nil, nil},
		// the document's own line
		{"0 add 0 1;0 add 0 1;0 set 0 1", "0 add 0 1;0 add 0 1", []int{2}, []string{"0 2: set 0 1 -> nothing"}},
		// code in one version, none in the other
		{"1 lock 1", "", []int{8}, []string{"1 0: lock 1 -> nothing"}},
		{"", "1 lock 1", []int{8}, []string{"1 0: nothing -> lock 1"}},
		{"0 set 0 1", "1 set 0 1", []int{0, 8}, []string{"0 0: set 0 1 -> nothing", "1 0: nothing -> set 0 1"}},
		{"", "2 load 1 3;2 store 3 1", []int{16, 17}, []string{"2 0: nothing -> load 1 3", "2 1: nothing -> store 3 1"}},
		// the first item, and the last that holds anything
		{full, "0 add 0 1;0 set 0 2;0 set 0 3;0 set 0 4;0 set 0 5;0 set 0 6", []int{0}, []string{"0 0: set 0 1 -> add 0 1"}},
		{last + "6", last + "7", []int{21}, []string{"2 5: set 0 6 -> set 0 7"}},
		{full, "0 set 0 1;0 set 0 2;0 set 0 3;0 set 0 4;0 set 0 5", []int{5}, []string{"0 5: set 0 6 -> nothing"}},
		// numbers, operations and operands that are near to one another
		{"0 set 0 1", "0 set 1 1", []int{0}, []string{"0 0: set 0 1 -> set 1 1"}},
		{"0 set 0 0", "0 add 0 0", []int{0}, []string{"0 0: set 0 0 -> add 0 0"}},
		{"0 lock 0", "0 unlock 0", []int{0}, []string{"0 0: lock 0 -> unlock 0"}},
		{"0 jump 0 1;0 set 0 1", "0 jump 0 2;0 set 0 1", []int{0}, []string{"0 0: jump 0 1 -> jump 0 2"}},
		{"0 assert 1 9", "0 assert 1 8", []int{0}, []string{"0 0: assert 1 9 -> assert 1 8"}},
		// one instruction put ahead moves all that is behind it, unless that is alike
		{"1 add 0 1;1 lock 0", "1 set 0 1;1 add 0 1;1 lock 0", []int{8, 9, 10}, []string{"1 0: add 0 1 -> set 0 1", "1 1: lock 0 -> add 0 1", "1 2: nothing -> lock 0"}},
		{"1 add 0 1;1 add 0 1", "1 add 0 1;1 add 0 1;1 add 0 1", []int{10}, []string{"1 2: nothing -> add 0 1"}},
	} {
		p, q := programOf(t, row.p), programOf(t, row.q)
		wantDiff(t, p, q, row.items, row.lines)
		wantAgreements(t, p, q, row.items)
	}
}

func wantInstrAt(t *testing.T, p impl.Program, item int, want impl.Instr, there bool) {
	t.Helper()
	if x, ok, code := impl.InstrAt(p, item); x != want || ok != there || code != 0 {
		t.Errorf("InstrAt(%v, %d) = %v, %v, %d, not %v, %v", p, item, x, ok, code, want, there)
	}
}

func TestInstrsAtAllItems(t *testing.T) {
	texts := plainInstrs()
	byText := instrsByText()
	for _, p := range slices.Concat(stillPrograms(t), rightPrograms(), closePrograms()[:50]) {
		sites := plainSites(p, texts)
		for k, row := range plainItems {
			for pc, item := range row {
				x, there := byText[sites[k][pc]]
				wantInstrAt(t, p, item, x, there)
			}
		}
	}
}

func TestInstrsAtItemsByHand(t *testing.T) {
	p := programOf(t, "0 set 0 1;0 lock 1;2 load 1 3;2 jump 0 3;2 set 1 0")
	for item, want := range map[int]impl.Instr{0: {Op: 3, B: 1}, 1: {Op: 5, A: 1}, 16: {Op: 1, A: 1, B: 3}, 17: {Op: 7, B: 3}, 18: {Op: 3, A: 1}} {
		wantInstrAt(t, p, item, want, true)
	}
	for _, item := range []int{2, 3, 6, 8, 9, 14, 19, 20, 22} {
		wantInstrAt(t, p, item, impl.Instr{}, false)
	}
	for _, item := range everyItem() {
		wantInstrAt(t, setProgram(0, 0, 0), item, impl.Instr{}, false)
		if pc := item % 8; pc < 6 {
			wantInstrAt(t, setProgram(6, 6, 6), item, setting(6)[pc], true)
		} else { // the end of the longest code
			wantInstrAt(t, setProgram(6, 6, 6), item, impl.Instr{}, false)
		}
	}
}

// answersAt tells all that a program answers of one state.
func answersAt(p impl.Program, s impl.Vm) string {
	text := fmt.Sprint(impl.VmOK(p, s))
	for _, call := range slices.Concat(callsOfState(p, s), callsOfFeet(p, s), callsOfSleepers(p, s, []int{0}), callsOfSleepers(p, s, []int{2, 1})) {
		text += "; " + call()
	}
	return text
}

// differFrom goes from a state on by the steps of the first version, and tells a
// state of which the second one answers otherwise, if there is one.
func differFrom(p, q impl.Program, key string, seen map[string]bool) string {
	if seen[key] {
		return ""
	}
	seen[key] = true
	if answersAt(p, vmOfKey(key)) != answersAt(q, vmOfKey(key)) {
		return key
	}
	for k := range 3 {
		next, _, code := plainStep(p, key, k)
		if code != 0 {
			continue
		}
		if at := differFrom(p, q, next, seen); at != "" {
			return at
		}
	}
	return ""
}

func wantSameFrom(t *testing.T, p, q impl.Program, key string) {
	t.Helper()
	if at := differFrom(p, q, key, map[string]bool{}); at != "" {
		t.Errorf("%v and %v agree on the foot of %s, and differ at %s", p, q, key, at)
	}
}

// wantSameWhole asks what is asked of whole programs, whose states begin at nought.
func wantSameWhole(t *testing.T, p, q impl.Program, seed int) {
	t.Helper()
	for i := range 3 {
		list := turns(p, seed+i)
		wasCalls := slices.Concat(callsOfFull(p, impl.Bug{Kind: 14}, newKey), callsOfSleep(p), callsOfSchedule(p, list, impl.Bug{Kind: 12}), callsOfTrace(p, list, turns(p, seed)))
		nowCalls := slices.Concat(callsOfFull(q, impl.Bug{Kind: 14}, newKey), callsOfSleep(q), callsOfSchedule(q, list, impl.Bug{Kind: 12}), callsOfTrace(q, list, turns(p, seed)))
		for n, call := range wasCalls {
			if was, now := call(), nowCalls[n](); was != now {
				t.Errorf("%v and %v agree on the whole foot, and answer %.80q, %.80q", p, q, was, now)
			}
		}
	}
}

// The theorem of footprints, told by the program's own calls.
func TestVersionsThatAgreeOnAFootAreTheSameFromThereOn(t *testing.T) {
	count := map[string]int{}
	for i, p := range slices.Concat(stillPrograms(t), closePrograms()[:150], rightPrograms()[60:120]) {
		keys := keysOf(plainSpace(p))
		for j, q := range versionsOf(p, i) {
			key := keys[(i*13+j*7)%len(keys)]
			if j%4 == 0 {
				key = newKey
			}
			foot, code := impl.FootOf(p, vmOfKey(key))
			if code != 0 {
				continue
			}
			changed, _ := impl.ChangedItems(p, q)
			agree, code := impl.AgreeOn(p, q, foot)
			if code != 0 || agree == impl.Touches(foot, changed) {
				t.Errorf("%v, %v: AgreeOn(%v) = %v, %d, changed %v", p, q, foot, agree, code, changed)
			}
			switch {
			case !agree:
				count["touched"]++
				continue
			case len(changed) == 0:
				count["unchanged"]++
			case key == newKey:
				count["from the beginning"]++
			default:
				count["further on"]++
			}
			if len(changed) > 0 || j == 0 && i%9 == 0 {
				wantSameFrom(t, p, q, key)
			}
			if key == newKey && len(changed) > 0 {
				wantSameWhole(t, p, q, i)
			}
			if back, code := impl.FootOf(q, vmOfKey(key)); !slices.Equal(back, foot) || code != 0 {
				t.Errorf("%v and %v agree on the foot %v of %s, and the other one is %v, %d", p, q, foot, key, back, code)
			}
			wantAgree(t, q, p, foot, true)
		}
	}
	for _, kind := range []string{"touched", "unchanged", "from the beginning", "further on"} {
		if count[kind] < 10 {
			t.Errorf("hardly any %s: %v", kind, count)
		}
	}
}

// Threads that stand at their ends, or behind them, do not wake up, unless their
// foot says so.
func TestVersionsOfStatesAtTheEnds(t *testing.T) {
	agreed, woken := 0, 0
	keys := rightKeys()
	for i, p := range slices.Concat(stillPrograms(t), closePrograms()[30:60]) {
		ends := fmt.Sprint(len(p.Code[0]), len(p.Code[1]), len(p.Code[2]))
		ends = ends[:1] + ends[2:3] + ends[4:]
		for j, q := range versionsOf(p, i) {
			for _, key := range []string{keys[(i*5+j*3)%len(keys)], ends + newKey[3:], "666" + newKey[3:], ends[:2] + newKey[2:]} {
				foot, code := impl.FootOf(p, vmOfKey(key))
				if code != 0 {
					continue
				}
				agree, code := impl.AgreeOn(p, q, foot)
				if code != 0 {
					t.Errorf("AgreeOn(%v, %v, %v): %d", p, q, foot, code)
				}
				if agree {
					agreed++
					wantSameFrom(t, p, q, key)
				}
				for k := range 3 {
					if !plainDone(p, key, k) || plainDone(q, key, k) {
						continue
					}
					woken++
					if agree {
						t.Errorf("%v and %v agree from %s on, and thread %d is done in the one alone", p, q, key, k)
					}
				}
			}
		}
	}
	if agreed < 100 || woken < 100 {
		t.Error("hardly any versions of such states:", agreed, woken)
	}
}

// Feet that meet a changed place, and feet that do not, written out.
func TestVersionsAndFeetByHand(t *testing.T) {
	jumps := "0 load 0 0;0 jump 0 4;0 set 1 1;0 set 1 2;0 set 1 3;1 set 0 1;1 store 0 0"
	for _, row := range []struct {
		p, q, key string
		agree     bool
	}{
		{jumps, jumps, newKey, true},
		{jumps, "0 load 0 0;0 jump 0 4;0 set 1 1;0 set 1 9;0 set 1 3;1 set 0 1;1 store 0 0", newKey, false},
		// what is behind a state: what was run ahead of it does not matter
		{jumps, "0 load 0 0;0 jump 0 4;0 set 1 1;0 set 1 9;0 set 1 3;1 set 0 1;1 store 0 0", "400" + newKey[3:], true},
		{jumps, "0 load 0 0;0 jump 0 4;0 set 1 1;0 set 1 9;0 set 1 3;1 add 0 1;1 lock 0", "420" + newKey[3:], true},
		// the jump is taken from here on, and the places between are nobody's
		{jumps, "0 load 0 0;0 jump 0 4;0 lock 1;0 lock 1;0 set 1 3;1 set 0 1;1 store 0 0", "0201" + newKey[4:], true},
		{jumps, "0 load 0 0;0 jump 0 4;0 lock 1;0 lock 1;0 set 1 4;1 set 0 1;1 store 0 0", "0201" + newKey[4:], false},
		// an end that is one no more, and one that comes sooner
		{jumps, jumps + ";2 set 0 1", newKey, false},
		{jumps, jumps + ";2 set 0 1", "001" + newKey[3:], true},
		{jumps, jumps + ";1 set 0 1", newKey, false},
		{jumps, jumps + ";1 set 0 1", "000" + "0000" + "00" + "000000", false},
		{jumps, jumps + ";1 set 0 1", "030" + newKey[3:], true},
		{jumps, "0 load 0 0;0 jump 0 4;0 set 1 1;0 set 1 2;0 set 1 3;1 set 0 1", newKey, false},
		// who waits for ever does not look behind its lock
		{"0 lock 0;0 lock 0;0 set 0 1", "0 lock 0;0 lock 0;0 assert 0 1;0 unlock 1", newKey, true},
		{"0 lock 0;0 lock 0;0 set 0 1", "0 lock 0;0 lock 0", newKey, true},
		{"0 lock 0;0 lock 0;0 set 0 1", "0 lock 0;0 lock 1;0 set 0 1", newKey, false},
	} {
		p, q := programOf(t, row.p), programOf(t, row.q)
		foot, code := impl.FootOf(p, vmOfKey(row.key))
		if code != 0 {
			t.Errorf("FootOf of %q, %s: %d", row.p, row.key, code)
		}
		wantAgree(t, p, q, foot, row.agree)
		if row.agree {
			wantSameFrom(t, p, q, row.key)
		} else if differFrom(p, q, row.key, map[string]bool{}) == "" {
			t.Errorf("%q and %q are the same from %s on", row.p, row.q, row.key)
		}
	}
}

func wantVersionsCode(t *testing.T, name string, p, q impl.Program, foot []int, want int) {
	t.Helper()
	if list, code := impl.ChangedItems(p, q); len(list) != 0 || code != impl.ErrBad {
		t.Errorf("%s: ChangedItems = %v, %d", name, list, code)
	}
	if list, code := impl.DiffText(p, q); len(list) != 0 || code != impl.ErrBad {
		t.Errorf("%s: DiffText = %q, %d", name, list, code)
	}
	wantAgreeCode(t, name, p, q, foot, want)
}

func wantAgreeCode(t *testing.T, name string, p, q impl.Program, foot []int, want int) {
	t.Helper()
	if ok, code := impl.AgreeOn(p, q, foot); ok || code != want {
		t.Errorf("%s: AgreeOn of %d items = %v, %d, not %d", name, len(foot), ok, code, want)
	}
}

func wantNoInstrAt(t *testing.T, name string, p impl.Program, item, want int) {
	t.Helper()
	if x, ok, code := impl.InstrAt(p, item); x != (impl.Instr{}) || ok || code != want {
		t.Errorf("%s: InstrAt(%d) = %v, %v, %d, not %d", name, item, x, ok, code, want)
	}
}

func TestVersionsThatAreWrong(t *testing.T) {
	right := setProgram(6, 0, 3)
	wrong := wrongPrograms()
	beyond := slices.Repeat([]int{0}, impl.MaxList+1)
	for i, p := range wrong {
		name := fmt.Sprint("program ", i)
		other := wrong[(i*7+3)%len(wrong)]
		for _, foot := range [][]int{nil, {0}, {22, 5}, {7}, {-1, 0}} { // bad comes ahead of range
			wantVersionsCode(t, name+" first", p, right, foot, impl.ErrBad)
			wantVersionsCode(t, name+" second", right, p, foot, impl.ErrBad)
			wantVersionsCode(t, name+" twice", p, p, foot, impl.ErrBad)
			wantVersionsCode(t, name+" and another one", p, other, foot, impl.ErrBad)
		}
		wantVersionsCode(t, name+" first", p, right, beyond, impl.ErrLong)
		wantVersionsCode(t, name+" second", right, p, beyond, impl.ErrLong)
		for _, item := range []int{0, 1, 8, 16, 22, 7, -1, 24} {
			wantNoInstrAt(t, name, p, item, impl.ErrBad)
		}
	}
}

func TestVersionsOfWrongItems(t *testing.T) {
	p, q := setProgram(6, 4, 3), setProgram(6, 4, 2)
	for _, item := range append(noItems(), 26, 30, -3) {
		for _, p := range []impl.Program{p, q, setProgram(0, 0, 0), setProgram(6, 6, 6)} {
			wantNoInstrAt(t, "wrong item", p, item, impl.ErrRange)
		}
		for _, rest := range [][]int{nil, {0}, {18}, {0, 18, 22}, everyItem()} {
			for at := range len(rest) + 1 {
				foot := slices.Insert(slices.Clone(rest), at, item)
				wantAgreeCode(t, "wrong item", p, q, foot, impl.ErrRange)
				wantAgreeCode(t, "wrong item", p, p, foot, impl.ErrRange)
			}
		}
	}
}

func TestVersionsAtTheBoundOfLists(t *testing.T) {
	p, q := setProgram(6, 4, 3), setProgram(6, 4, 2)
	full := slices.Repeat([]int{0, 22, 8, 14, 17, 16, 6}, 600)[:impl.MaxList]
	wantAgree(t, p, q, full, true)
	wantAgree(t, p, p, full, true)
	full[impl.MaxList-1] = 18
	wantAgree(t, p, q, full, false)
	wantAgree(t, p, p, full, true)
	for _, item := range []int{0, 18, 7} {
		wantAgreeCode(t, "beyond", p, q, append(slices.Clone(full), item), impl.ErrLong)
		wantAgreeCode(t, "beyond", p, p, append(slices.Clone(full), item), impl.ErrLong)
	}
	full[0] = 7
	wantAgreeCode(t, "full", p, q, full, impl.ErrRange)
	wantAgreeCode(t, "far beyond", p, q, slices.Repeat(full, 30), impl.ErrLong)
}
