package tests

import (
	"fmt"
	"math"
	"slices"
	"testing"

	"loop.example/g00632/impl"
)

// plainItems are written out: the places of a thread, its row.
var plainItems = [3][7]int{
	{0, 1, 2, 3, 4, 5, 6},
	{8, 9, 10, 11, 12, 13, 14},
	{16, 17, 18, 19, 20, 21, 22},
}

func everyItem() []int {
	return slices.Concat(plainItems[0][:], plainItems[1][:], plainItems[2][:])
}

// noItems are between the items, right beside them, and far away.
func noItems() []int {
	return []int{7, 15, 23, -1, 24, -2, -8, -7, -9, 25, 31, 32, 48, 64, 1 << 32, 1<<32 + 3, 1 << 62, math.MinInt, math.MinInt + 8, math.MaxInt, math.MaxInt - 7}
}

func plainLooks(key string) []int {
	return []int{plainItems[0][key[0]-'0'], plainItems[1][key[1]-'0'], plainItems[2][key[2]-'0']}
}

// plainFoot goes from key to key, and marks where threads stand; with it, how many
// states there are, up to the first that is too many for all states.
func plainFoot(p impl.Program, key string) ([]int, int) {
	var marks [23]bool
	seen := map[string]bool{}
	var visit func(key string)
	visit = func(key string) {
		if seen[key] || len(seen) > 2000 {
			return
		}
		seen[key] = true
		for _, item := range plainLooks(key) {
			marks[item] = true
		}
		for k := range 3 {
			if next, _, code := plainStep(p, key, k); code == 0 {
				visit(next)
			}
		}
	}
	visit(key)
	var foot []int
	for item, mark := range marks {
		if mark {
			foot = append(foot, item)
		}
	}
	return foot, len(seen)
}

// plainUnion asks of each item alone whether it is there.
func plainUnion(lists ...[]int) []int {
	var all []int
	for _, item := range everyItem() {
		for _, list := range lists {
			if slices.Contains(list, item) {
				all = append(all, item)
				break
			}
		}
	}
	return all
}

func wantLooks(t *testing.T, p impl.Program, key string) {
	t.Helper()
	if list, code := impl.LooksAt(p, vmOfKey(key)); !slices.Equal(list, plainLooks(key)) || code != 0 {
		t.Errorf("LooksAt(%v, %s) = %v, %d, not %v", p, key, list, code, plainLooks(key))
	}
}

func wantFootCode(t *testing.T, p impl.Program, s impl.Vm, want int) {
	t.Helper()
	if list, code := impl.FootOf(p, s); len(list) != 0 || code != want {
		t.Errorf("FootOf(%.80v, %v) = %v, %d, not %d", p, s, list, code, want)
	}
}

// wantFoot holds both calls of a state against the plain ones; it tells how many
// states there are.
func wantFoot(t *testing.T, p impl.Program, key string) int {
	t.Helper()
	wantLooks(t, p, key)
	want, states := plainFoot(p, key)
	if states >= 2000 {
		wantFootCode(t, p, vmOfKey(key), impl.ErrBudget)
		return states
	}
	if list, code := impl.FootOf(p, vmOfKey(key)); !slices.Equal(list, want) || code != 0 {
		t.Errorf("FootOf(%v, %s) = %v, %d, not %v", p, key, list, code, want)
	}
	return states
}

func TestItemsOfAllPlaces(t *testing.T) {
	met := 0
	for k := -4; k <= 9; k++ {
		for pc := -20; pc <= 30; pc++ {
			item, code := impl.ItemOf(k, pc)
			if k < 0 || k > 2 || pc < 0 || pc > 6 {
				if item != 0 || code != impl.ErrRange {
					t.Errorf("ItemOf(%d, %d) = %d, %d", k, pc, item, code)
				}
				continue
			}
			met++
			thread, place, back := impl.ItemAt(item)
			if item != plainItems[k][pc] || code != 0 || thread != k || place != pc || back != 0 {
				t.Errorf("ItemOf(%d, %d) = %d, %d, and there is %d, %d, %d", k, pc, item, code, thread, place, back)
			}
		}
	}
	if met != 21 {
		t.Error("so many items:", met)
	}
	for _, n := range append(oddNumbers(), 7, 8, 3, -1) {
		if n >= 0 && n <= 2 {
			continue
		}
		for _, pc := range []int{0, 6, n} {
			if item, code := impl.ItemOf(n, pc); item != 0 || code != impl.ErrRange {
				t.Errorf("ItemOf(%d, %d) = %d, %d", n, pc, item, code)
			}
		}
		for k := range 3 {
			if item, code := impl.ItemOf(k, n); n > 6 || n < 0 {
				if item != 0 || code != impl.ErrRange {
					t.Errorf("ItemOf(%d, %d) = %d, %d", k, n, item, code)
				}
			}
		}
	}
}

func TestItemsOfAllNumbers(t *testing.T) {
	met := 0
	for _, item := range slices.Concat(counted(300), noItems(), oddNumbers(), []int{-3, -4, -5, -6, -10, -16, -24}) {
		k, pc, code := impl.ItemAt(item)
		if slices.Contains(everyItem(), item) {
			met++
			if code != 0 || k != item/8 || pc != item-k*8 {
				t.Errorf("ItemAt(%d) = %d, %d, %d", item, k, pc, code)
			}
		} else if k != 0 || pc != 0 || code != impl.ErrRange {
			t.Errorf("ItemAt(%d) = %d, %d, %d", item, k, pc, code)
		}
	}
	if met < 21 {
		t.Error("hardly any items:", met)
	}
}

// The promise, told by the program's own calls: a foot is just what its state looks
// at, and the feet of all that its steps lead to.
func wantFootOfSteps(t *testing.T, p impl.Program, key string) {
	t.Helper()
	s := vmOfKey(key)
	foot, code := impl.FootOf(p, s)
	if code != 0 {
		t.Errorf("FootOf(%v, %s): %d", p, key, code)
		return
	}
	want, _ := impl.LooksAt(p, s)
	for k := range 3 {
		next, _, code := impl.StepVm(p, s, k)
		if code != 0 {
			continue
		}
		behind, code := impl.FootOf(p, next)
		if code != 0 {
			t.Errorf("%v: the foot of %s is told, that of thread %d's step is not: %d", p, key, k, code)
		}
		want, _ = impl.MergeItems(want, behind)
	}
	if !slices.Equal(foot, want) {
		t.Errorf("%v: the foot of %s is %v, those of its steps come to %v", p, key, foot, want)
	}
}

func TestFeetOfManyPrograms(t *testing.T) {
	count := map[string]int{}
	for i, p := range slices.Concat(stillPrograms(t), rightPrograms(), closePrograms(), racingPrograms()) {
		for n, key := range keysOf(plainSpace(p)) {
			if n > 3 && n%(37+i%11) != 0 {
				continue
			}
			states := wantFoot(t, p, key)
			foot, _ := plainFoot(p, key)
			switch {
			case states >= 2000:
				count["beyond"]++
				continue
			case states > 200:
				count["many"]++
			case states > 1:
				count["some"]++
			default:
				count["one"]++
			}
			if n%5 == 0 {
				wantFootOfSteps(t, p, key)
			}
			if len(foot) > 18 {
				count["nearly all items"]++
			}
			if n > 0 {
				count["further on"]++
			}
			for k := range 3 {
				if slices.Contains(foot, plainItems[k][6]) && len(p.Code[k]) == 6 {
					count["last place"]++
				}
			}
		}
	}
	for _, kind := range []string{"beyond", "many", "some", "one", "nearly all items", "further on", "last place"} {
		if count[kind] < 10 {
			t.Errorf("hardly any %s: %v", kind, count)
		}
	}
}

// Of each state of a few programs nothing is left out.
func TestFeetOfEachState(t *testing.T) {
	for _, p := range append(stillPrograms(t), waysOfTwoLengths(t), closePrograms()[40], closePrograms()[77]) {
		for _, key := range keysOf(plainSpace(p)) {
			wantFoot(t, p, key)
			wantFootOfSteps(t, p, key)
		}
	}
}

// By all schedules instead of all states: what a run goes by is in the foot, and
// nothing else is.
func TestFeetByAllSchedules(t *testing.T) {
	few := 0
	for i, p := range append(stillPrograms(t), closePrograms()...) {
		if plainRuns(p, newKey, map[string]int{}) > 40 {
			continue
		}
		few++
		var looks [][]int
		for _, list := range schedulesOf(p, 18) {
			s, _, _ := impl.RunSchedule(p, list)
			one, code := impl.LooksAt(p, s)
			if code != 0 {
				t.Errorf("program %d: LooksAt behind %v: %d", i, list, code)
			}
			looks = append(looks, one)
		}
		foot, code := impl.FootOf(p, impl.NewVm())
		if want := plainUnion(looks...); !slices.Equal(foot, want) || code != 0 {
			t.Errorf("%v: the foot is %v, %d, its schedules come by %v", p, foot, code, want)
		}
	}
	if few < 40 {
		t.Error("hardly any programs of few schedules:", few)
	}
}

// Threads may stand at the end of their code, and anywhere behind it.
func TestFeetOfStatesOfOtherPrograms(t *testing.T) {
	behind := 0
	programs := slices.Concat(stillPrograms(t), closePrograms()[30:60], []impl.Program{setProgram(0, 0, 0), setProgram(6, 0, 0), setProgram(0, 3, 6)})
	keys := rightKeys()
	for i, p := range programs {
		for n := i; n < len(keys); n += 13 {
			if wantFoot(t, p, keys[n]) < 2000 {
				wantFootOfSteps(t, p, keys[n])
			}
			for k := range 3 {
				if int(keys[n][k]-'0') > len(p.Code[k]) {
					behind++
				}
			}
		}
	}
	if behind < 100 {
		t.Error("hardly any thread behind its end:", behind)
	}
}

// Threads of sets alone go by all of their places, and stand at their ends then.
func TestFeetOfAllLengths(t *testing.T) {
	for a := range 7 {
		for b := range 7 {
			for c := range 7 {
				p := setProgram(a, b, c)
				want := slices.Concat(plainItems[0][:a+1], plainItems[1][:b+1], plainItems[2][:c+1])
				if list, code := impl.FootOf(p, impl.NewVm()); !slices.Equal(list, want) || code != 0 {
					t.Errorf("of %d, %d, %d the foot is %v, %d", a, b, c, list, code)
				}
				for _, pcs := range [][3]int{{a, b, c}, {a / 2, b / 3, max(c-1, 0)}, {6, 6, 6}} {
					wantFoot(t, p, fmt.Sprintf("%d%d%d", pcs[0], pcs[1], pcs[2])+newKey[3:])
				}
			}
		}
	}
}

func wantFeet(t *testing.T, lines, key string, looks, foot []int) {
	t.Helper()
	p := programOf(t, lines)
	if list, code := impl.LooksAt(p, vmOfKey(key)); !slices.Equal(list, looks) || code != 0 {
		t.Errorf("%q: LooksAt of %s = %v, %d, not %v", lines, key, list, code, looks)
	}
	if list, code := impl.FootOf(p, vmOfKey(key)); !slices.Equal(list, foot) || code != 0 {
		t.Errorf("%q: FootOf of %s = %v, %d, not %v", lines, key, list, code, foot)
	}
}

func TestFeetByHand(t *testing.T) {
	full := "0 set 0 1;0 set 0 1;0 set 0 1;0 set 0 1;0 set 0 1;0 set 0 1"
	deadlock := "0 lock 0;0 lock 1;0 set 0 1;1 lock 1;1 lock 0;1 set 0 1"
	for _, row := range []struct {
		lines, key  string
		looks, foot []int
	}{
		// no thread has code: ends alone, or what is behind them
		{"", newKey, []int{0, 8, 16}, []int{0, 8, 16}},
		{"", "666" + newKey[3:], []int{6, 14, 22}, []int{6, 14, 22}},
		{"", "305" + newKey[3:], []int{3, 8, 21}, []int{3, 8, 21}},
		// one thread, up to its end
		{"0 set 0 1", newKey, []int{0, 8, 16}, []int{0, 1, 8, 16}},
		{"1 set 0 1", newKey, []int{0, 8, 16}, []int{0, 8, 9, 16}},
		{"2 set 0 1", newKey, []int{0, 8, 16}, []int{0, 8, 16, 17}},
		{"0 set 0 1", "100" + newKey[3:], []int{1, 8, 16}, []int{1, 8, 16}},
		{"0 set 0 1", "200" + newKey[3:], []int{2, 8, 16}, []int{2, 8, 16}},
		{"0 set 0 1", "600" + newKey[3:], []int{6, 8, 16}, []int{6, 8, 16}},
		// a thread of the greatest length: its last place, and the end behind it
		{full, newKey, []int{0, 8, 16}, []int{0, 1, 2, 3, 4, 5, 6, 8, 16}},
		{full, "500" + newKey[3:], []int{5, 8, 16}, []int{5, 6, 8, 16}},
		{full, "600" + newKey[3:], []int{6, 8, 16}, []int{6, 8, 16}},
		{full, "466" + newKey[3:], []int{4, 14, 22}, []int{4, 5, 6, 14, 22}},
		// a jump that is always taken, one that never is, one that may be
		{"0 set 0 1;0 jump 0 4;0 set 1 1;0 set 1 2", newKey, []int{0, 8, 16}, []int{0, 1, 4, 8, 16}},
		{"0 set 0 0;0 jump 0 4;0 set 1 1;0 set 1 2", newKey, []int{0, 8, 16}, []int{0, 1, 2, 3, 4, 8, 16}},
		{"0 load 0 0;0 jump 0 3;0 set 1 1;1 set 0 1;1 store 0 0", newKey, []int{0, 8, 16}, []int{0, 1, 2, 3, 8, 9, 10, 16}},
		{"0 load 0 0;0 jump 0 3;0 set 1 1;1 set 0 1;1 store 0 0", "0201" + newKey[4:], []int{0, 10, 16}, []int{0, 1, 3, 10, 16}},
		{"0 jump 0 6;0 set 0 1;0 set 0 1;0 set 0 1;0 set 0 1;0 set 0 1", "000" + "0000" + "00" + "100000", []int{0, 8, 16}, []int{0, 6, 8, 16}},
		{"0 jump 0 6;0 set 0 1;0 set 0 1;0 set 0 1;0 set 0 1;0 set 0 1", "000" + "0000" + "00" + "010000", []int{0, 8, 16}, []int{0, 1, 2, 3, 4, 5, 6, 8, 16}},
		// who waits for ever looks at its lock, and at nothing behind it
		{"0 lock 0;0 lock 0;0 set 0 1", newKey, []int{0, 8, 16}, []int{0, 1, 8, 16}},
		{"0 lock 0;0 set 0 1", "000" + "0000" + "30" + "000000", []int{0, 8, 16}, []int{0, 8, 16}},
		{deadlock, newKey, []int{0, 8, 16}, []int{0, 1, 2, 3, 8, 9, 10, 11, 16}},
		{deadlock, "110" + "0000" + "12" + "000000", []int{1, 9, 16}, []int{1, 9, 16}},
		{deadlock, "120" + "0000" + "12" + "000000", []int{1, 10, 16}, []int{1, 10, 11, 16}},
		// bugs do not end anything
		{"0 assert 0 5;0 unlock 1;0 set 0 1", newKey, []int{0, 8, 16}, []int{0, 1, 2, 3, 8, 16}},
	} {
		wantFeet(t, row.lines, row.key, row.looks, row.foot)
	}
}

func TestFeetAtTheBound(t *testing.T) {
	for lines, want := range boundPrograms() {
		p := programOf(t, lines)
		if n := wantFoot(t, p, newKey); n != want {
			t.Errorf("%q has %d states, not %d", lines, n, want)
		}
		for k := range 3 { // fewer states are behind it than it has itself
			next, _, _ := plainStep(p, newKey, k)
			wantFoot(t, p, next)
		}
	}
	race := "0 add 0 1;0 store 0 0;0 assert 0 2;0 load 0 1;0 store 1 1;0 store 0 0;1 add 0 2;1 store 0 0;1 load 1 0;1 load 1 0;1 store 1 1;1 store 1 0;2 add 0 3;2 store 0 0;2 load 0 0;2 load 0 1;2 load 1 1;2 store 1 1"
	other := "0 store 0 1;0 add 0 1;0 store 1 0;0 load 0 0;0 add 0 1;0 load 0 1;1 load 1 1;1 add 0 2;1 store 1 0;1 add 0 1;1 store 1 1;2 load 1 0;2 add 0 3;2 store 1 0;2 store 1 0;2 store 0 1;2 load 0 0"
	for _, row := range []struct {
		lines, key string
		states     int
	}{
		{race, "121203110233212", 1998}, {race, "120120321022231", 1999}, {race, "120122200022112", 1999},
		{race, "121031210130231", 2001}, {race, newKey, 2001},
		{other, "000021031132002", 2000}, {other, "000310102013100", 2000},
	} {
		p := programOf(t, row.lines)
		if n := wantFoot(t, p, row.key); n != row.states {
			t.Errorf("%q has %d states from %s on, not %d", row.lines, n, row.key, row.states)
		}
		want := impl.OK
		if row.states >= 2000 {
			want = impl.ErrBudget
		}
		if _, code := impl.FootOf(p, vmOfKey(row.key)); code != want {
			t.Errorf("FootOf of %d states: %d, not %d", row.states, code, want)
		}
	}
}

// Where a foot is too much, a look is not; what is wrong comes ahead of both.
func TestFeetOfTooManyStates(t *testing.T) {
	for _, p := range beyondPrograms(t) {
		wantLooks(t, p, newKey)
		wantFootCode(t, p, impl.NewVm(), impl.ErrBudget)
		for _, s := range wrongVms()[:40] {
			wantFootCode(t, p, s, impl.ErrBad)
		}
		key, _, _ := plainRun(p, []int{0, 1, 2, 0, 1, 2, 0, 1, 2, 0, 1, 2})
		if n := wantFoot(t, p, key); n > 1999 {
			t.Errorf("%d states from %s on", n, key)
		}
		p.Code[2] = append(slices.Clone(p.Code[2][:5]), impl.Instr{Op: 9})
		wantFootCode(t, p, impl.NewVm(), impl.ErrBad)
	}
}

func wantFeetBad(t *testing.T, name string, p impl.Program, s impl.Vm) {
	t.Helper()
	if list, code := impl.LooksAt(p, s); len(list) != 0 || code != impl.ErrBad {
		t.Errorf("%s: LooksAt = %v, %d", name, list, code)
	}
	if list, code := impl.FootOf(p, s); len(list) != 0 || code != impl.ErrBad {
		t.Errorf("%s: FootOf = %v, %d", name, list, code)
	}
}

func TestFeetOfWrongStates(t *testing.T) {
	for _, p := range append(stillPrograms(t)[:2], setProgram(0, 0, 0)) {
		for i, s := range wrongVms() {
			wantFeetBad(t, fmt.Sprint("state ", i), p, s)
		}
	}
	for i, p := range wrongPrograms() {
		wantFeetBad(t, fmt.Sprint("program ", i), p, impl.NewVm())
		wantFeetBad(t, fmt.Sprint("program and state ", i), p, impl.Vm{})
	}
}

// itemLists rise or do not, and hold places once or more than once.
func itemLists() [][]int {
	all := listsUpTo(2, 0, 3)
	all = append(all, []int{}, everyItem(), []int{22, 0}, []int{22}, []int{6, 14, 22}, []int{8, 16, 8, 16}, []int{22, 21, 20, 19, 18, 17, 16}, slices.Repeat(everyItem(), 3))
	back := everyItem()
	slices.Reverse(back)
	return append(all, back, slices.Repeat([]int{5}, 40), []int{14, 13, 6, 5, 14}, slices.Repeat(back, 195))
}

func wantMergedItems(t *testing.T, a, b []int) {
	t.Helper()
	want := plainUnion(a, b)
	if list, code := impl.MergeItems(a, b); !slices.Equal(list, want) || code != 0 {
		t.Errorf("MergeItems(%.80v, %.80v) = %v, %d, not %v", a, b, list, code, want)
	}
}

func TestItemsAreMergedInOrder(t *testing.T) {
	for _, a := range itemLists() {
		for _, b := range itemLists() {
			wantMergedItems(t, a, b)
		}
		for _, item := range everyItem() {
			wantMergedItems(t, a, []int{item})
			wantMergedItems(t, []int{item}, a)
		}
	}
	for i, p := range closePrograms()[:60] {
		keys := keysOf(plainSpace(p))
		a, _ := plainFoot(p, keys[i%len(keys)])
		b, _ := plainFoot(p, keys[(i*7+3)%len(keys)])
		wantMergedItems(t, a, b)
	}
}

func TestMergedItemsByHand(t *testing.T) {
	for _, row := range []struct{ a, b, want []int }{
		{nil, nil, nil}, {[]int{}, nil, nil}, {[]int{0}, nil, []int{0}}, {nil, []int{22}, []int{22}},
		{[]int{22, 0}, nil, []int{0, 22}}, {nil, []int{3, 3, 3}, []int{3}}, {[]int{3}, []int{3}, []int{3}},
		{[]int{0, 8, 16}, []int{1, 8, 16}, []int{0, 1, 8, 16}}, {[]int{16, 8, 6}, []int{14, 6, 8, 14}, []int{6, 8, 14, 16}},
		{[]int{9, 10}, []int{2, 1}, []int{1, 2, 9, 10}},
	} {
		if list, code := impl.MergeItems(row.a, row.b); !slices.Equal(list, row.want) || code != 0 {
			t.Errorf("MergeItems(%v, %v) = %v, %d, not %v", row.a, row.b, list, code, row.want)
		}
	}
}

func wantMergeCode(t *testing.T, a, b []int, want int) {
	t.Helper()
	if list, code := impl.MergeItems(a, b); len(list) != 0 || code != want {
		t.Errorf("MergeItems(%.80v, %.80v) = %v, %d, not %d", a, b, list, code, want)
	}
}

func TestMergesOfWrongItems(t *testing.T) {
	for _, wrong := range noItems() {
		for _, rest := range itemLists() {
			if len(rest) >= impl.MaxList {
				continue
			}
			for _, at := range []int{0, len(rest) / 2, len(rest)} {
				list := slices.Insert(slices.Clone(rest), at, wrong)
				wantMergeCode(t, list, nil, impl.ErrRange)
				wantMergeCode(t, nil, list, impl.ErrRange)
				wantMergeCode(t, list, rest, impl.ErrRange)
				wantMergeCode(t, rest, list, impl.ErrRange)
			}
		}
	}
}

func TestMergesOfItemsAtTheBoundOfLists(t *testing.T) {
	full := slices.Repeat(everyItem(), 200)[:impl.MaxList]
	beyond := append(slices.Clone(full), 0)
	wrong := append(slices.Clone(full[1:]), 7)
	for _, rest := range [][]int{nil, {0}, {22, 0}, full} {
		wantMergedItems(t, full, rest)
		wantMergedItems(t, rest, full)
		wantMergeCode(t, wrong, rest, impl.ErrRange)
		wantMergeCode(t, rest, wrong, impl.ErrRange)
	}
	for _, rest := range [][]int{nil, {0}, {7}, {-1}, full, wrong, beyond} {
		for _, long := range [][]int{beyond, make([]int, 3*impl.MaxList), slices.Repeat([]int{-1}, impl.MaxList+1)} {
			wantMergeCode(t, long, rest, impl.ErrLong)
			wantMergeCode(t, rest, long, impl.ErrLong)
		}
	}
}

func wantTouches(t *testing.T, foot, changed []int, want bool) {
	t.Helper()
	if got := impl.Touches(foot, changed); got != want {
		t.Errorf("Touches(%.80v, %.80v) is %v", foot, changed, got)
	}
	if got := impl.Touches(changed, foot); got != want {
		t.Errorf("Touches(%.80v, %.80v) is %v", changed, foot, got)
	}
}

func TestTouchesOfManyLists(t *testing.T) {
	count := map[bool]int{}
	for _, a := range itemLists() {
		for _, b := range itemLists() {
			want := false
			for _, item := range everyItem() {
				want = want || slices.Contains(a, item) && slices.Contains(b, item)
			}
			count[want]++
			wantTouches(t, a, b, want)
		}
		for _, item := range everyItem() {
			wantTouches(t, a, []int{item}, slices.Contains(a, item))
		}
	}
	if count[true] < 100 || count[false] < 100 {
		t.Error("hardly any that touch, or that do not:", count)
	}
}

func TestTouchesByHand(t *testing.T) {
	for _, row := range []struct {
		a, b []int
		want bool
	}{
		{nil, nil, false}, {nil, []int{}, false}, {[]int{0}, nil, false}, {[]int{0}, []int{0}, true}, {[]int{22}, []int{22}, true},
		{[]int{0}, []int{22}, false}, {[]int{0}, []int{8}, false}, {[]int{0, 8, 16}, []int{1, 9, 17}, false},
		{[]int{0, 8, 16}, []int{22, 21, 16}, true}, {[]int{16, 8, 0}, []int{1, 9, 0}, true}, {[]int{5, 5, 5}, []int{5}, true},
		{[]int{5, 5, 5}, []int{6, 6}, false}, {[]int{6}, []int{14, 22}, false},
		// numbers are held against numbers, those that are no items too
		{[]int{7}, []int{7}, true}, {[]int{7}, []int{15, 23}, false}, {[]int{-1, 3}, []int{3, -2}, true}, {[]int{-1}, []int{-1}, true},
		{[]int{math.MinInt}, []int{math.MaxInt}, false}, {[]int{math.MinInt}, []int{0, math.MinInt}, true}, {[]int{1 << 32}, []int{0}, false},
	} {
		wantTouches(t, row.a, row.b, row.want)
	}
}

// A change of one place meets just those feet that have it.
func TestFeetThatMeetChangedPlaces(t *testing.T) {
	count := map[bool]int{}
	for _, p := range append(stillPrograms(t), closePrograms()[:80]...) {
		if len(plainSpace(p)) > 300 {
			continue
		}
		foot, code := impl.FootOf(p, impl.NewVm())
		if code != 0 {
			t.Errorf("FootOf(%v): %d", p, code)
		}
		want, _ := plainFoot(p, newKey)
		for _, item := range everyItem() {
			touched := slices.Contains(want, item)
			count[touched]++
			wantTouches(t, foot, []int{item}, touched)
			wantTouches(t, foot, []int{7, item, 23}, touched)
		}
	}
	if count[true] < 100 || count[false] < 100 {
		t.Error("hardly any that meet, or that do not:", count)
	}
}

func TestTouchesAtTheBoundOfLists(t *testing.T) {
	full := make([]int, impl.MaxList)
	full[impl.MaxList-1] = 22
	beyond := append(slices.Clone(full), 0)
	wantTouches(t, full, []int{22}, true)
	wantTouches(t, full, []int{21}, false)
	wantTouches(t, full, full, true)
	for _, rest := range [][]int{nil, {0}, {22, 0}, full, beyond} {
		wantTouches(t, beyond, rest, false)
		wantTouches(t, make([]int, 3*impl.MaxList), rest, false)
	}
}
