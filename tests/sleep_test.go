package tests

import (
	"fmt"
	"math"
	"slices"
	"testing"

	"loop.example/g00632/impl"
)

// slept is what a plain search comes to: with it, how many nodes have somebody
// who can, but nobody who does not sleep.
type slept struct {
	bugs                    []impl.Bug
	runs, nodes, fastAsleep int
}

// plainSleep is a second, plain writing: it goes from key to key, and asks of each
// thread alone since when it sleeps; it stops behind the first node that is too many.
func plainSleep(p impl.Program) slept {
	var all slept
	found := map[impl.Bug]bool{}
	var node func(key string, asleep [3]bool)
	node = func(key string, asleep [3]bool) {
		all.nodes++
		if all.nodes > 5000 {
			return
		}
		if plainStuck(p, key) {
			found[impl.Bug{Kind: 14}] = true
		}
		can := plainEnabled(p, key)
		steps := 0
		for _, k := range can {
			if asleep[k] {
				continue
			}
			steps++
			next, kind, _ := plainStep(p, key, k)
			if kind != 0 {
				found[impl.Bug{Kind: kind, Thread: k, Pc: int(key[k] - '0')}] = true
			}
			behind := asleep
			for other := range 3 {
				behind[other] = asleep[other] && !plainDepends(plainEvent(p, key, other), plainEvent(p, key, k))
			}
			node(next, behind)
			asleep[k] = true
		}
		switch {
		case len(can) == 0:
			all.runs++
		case steps == 0:
			all.fastAsleep++
		}
	}
	node(newKey, [3]bool{})
	for b := range found {
		all.bugs = append(all.bugs, b)
	}
	all.bugs = plainMerge(all.bugs)
	return all
}

// plainClasses counts the normal forms of all schedules behind which nobody can.
func plainClasses(p impl.Program) int {
	forms := map[string]bool{}
	var visit func(key string, events []impl.Event)
	visit = func(key string, events []impl.Event) {
		can := plainEnabled(p, key)
		if len(can) == 0 {
			forms[fmt.Sprint(plainNormal(events))] = true
		}
		for _, k := range can {
			next, _, _ := plainStep(p, key, k)
			visit(next, append(slices.Clone(events), plainEvent(p, key, k)))
		}
	}
	visit(newKey, nil)
	return len(forms)
}

func wantSleep(t *testing.T, p impl.Program, bugs []impl.Bug, runs, nodes int) {
	t.Helper()
	got, code := impl.SleepSearch(p)
	if !slices.Equal(got.Bugs, bugs) || got.Runs != runs || got.Nodes != nodes || code != 0 {
		t.Errorf("SleepSearch(%v) = %v, %d, not %v, %d, %d", p, got, code, bugs, runs, nodes)
	}
}

func wantClasses(t *testing.T, p impl.Program, want int) {
	t.Helper()
	if n, code := impl.ClassesOf(p); n != want || code != 0 {
		t.Errorf("ClassesOf(%v) = %d, %d, not %d", p, n, code, want)
	}
}

func wantSleepCode(t *testing.T, p impl.Program, want int) {
	t.Helper()
	got, code := impl.SleepSearch(p)
	if len(got.Bugs) != 0 || got.Runs != 0 || got.Nodes != 0 || code != want {
		t.Errorf("SleepSearch(%.80v) = %v, %d, not %d", p, got, code, want)
	}
}

func wantClassesCode(t *testing.T, p impl.Program, want int) {
	t.Helper()
	if n, code := impl.ClassesOf(p); n != 0 || code != want {
		t.Errorf("ClassesOf(%.80v) = %d, %d, not %d", p, n, code, want)
	}
}

// The theorem of sleep, told by the program's own calls too.
func TestSleepSearchOfManyPrograms(t *testing.T) {
	count := map[string]int{}
	for _, p := range slices.Concat(rightPrograms(), closePrograms(), stillPrograms(t), racingPrograms()) {
		want := plainSleep(p)
		if want.nodes > 5000 {
			count["beyond"]++
			wantSleepCode(t, p, impl.ErrBudget)
			continue
		}
		wantSleep(t, p, want.bugs, want.runs, want.nodes)
		runs, code := impl.CountRuns(p)
		if code != 0 {
			count["many states"]++
			continue
		}
		bugs, _ := impl.AllBugs(p)
		got, _ := impl.SleepSearch(p)
		if !slices.Equal(got.Bugs, bugs) {
			t.Errorf("%v: who lets threads sleep finds %v, not %v", p, got.Bugs, bugs)
		}
		if got.Runs > runs {
			t.Errorf("%v: %d schedules with sleep, %d without", p, got.Runs, runs)
		}
		for _, b := range bugs {
			count[impl.CodeWord(b.Kind)]++
		}
		if got.Runs < runs {
			count["fewer"]++
		}
		if got.Runs > 1 {
			count["several"]++
		}
		if want.fastAsleep > 0 {
			count["fast asleep"]++
		}
		switch {
		case runs <= 5000 && got.Runs <= 300:
			count["classes"]++
			wantClasses(t, p, got.Runs)
		default:
			wantClassesCode(t, p, impl.ErrBudget)
		}
	}
	for _, kind := range []string{"beyond", "assert", "fault", "deadlock", "fewer", "several", "fast asleep", "classes"} {
		if count[kind] < 15 {
			t.Errorf("hardly any %s: %v", kind, count)
		}
	}
}

func TestClassesOfManyPrograms(t *testing.T) {
	count := map[int]int{}
	for _, p := range slices.Concat(rightPrograms(), closePrograms(), stillPrograms(t)) {
		if plainRuns(p, newKey, map[string]int{}) > 300 {
			continue
		}
		want := plainClasses(p)
		wantClasses(t, p, want)
		count[min(want, 3)]++
	}
	if count[1] < 30 || count[2] < 5 || count[3] < 30 {
		t.Error("hardly any of one, two or more classes", count)
	}
}

// Nobody sleeps here: a node is a schedule that is the least of its class, and
// what a search that lets threads sleep goes through are just these.
func TestNodesAreTheLeastOfTheirClasses(t *testing.T) {
	programs := append(stillPrograms(t), waysOfTwoLengths(t))
	for i, p := range closePrograms() {
		if i%2 == 0 {
			programs = append(programs, p)
		}
	}
	small := 0
	for _, p := range programs {
		if plainRuns(p, newKey, map[string]int{}) > 60 {
			continue
		}
		small++
		var bugs []impl.Bug
		nodes, runs := 0, 0
		for _, list := range schedulesOf(p, 18) {
			key, found, _ := plainRun(p, list)
			bugs = append(bugs, found...)
			if least := slices.MinFunc(classOf(p, list), slices.Compare[[]int]); !slices.Equal(list, least) {
				continue
			}
			nodes++
			if len(plainEnabled(p, key)) == 0 {
				runs++
			}
		}
		wantSleep(t, p, plainMerge(bugs), runs, nodes)
		wantClasses(t, p, runs)
	}
	if small < 50 {
		t.Errorf("only %d programs", small)
	}
}

// Programs whose bugs, schedules and nodes are written out.
func TestSleepSearchByHand(t *testing.T) {
	for _, row := range []struct {
		lines       string
		bugs        string
		runs, nodes int
	}{
		// no code at all; one schedule alone
		{"", "", 1, 1},
		{"2 set 0 1", "", 1, 2},
		{"1 store 0 0;1 load 0 0;1 lock 1", "", 1, 4},
		{"0 set 0 1;0 jump 0 3;0 assert 0 0", "", 1, 3},
		// of steps that do not depend all subsets are nodes, one end is a schedule
		{"0 set 0 1;1 set 0 1", "", 1, 4},
		{"0 set 0 1;1 set 0 1;2 set 0 1", "", 1, 8},
		{"0 set 0 1;0 set 0 1;1 set 0 1;2 set 0 1", "", 1, 12},
		{"0 load 0 0;1 load 0 0;2 load 1 0", "", 1, 8},
		{"0 store 0 0;1 store 1 0;2 load 0 2", "", 1, 8},
		{"0 lock 0;1 lock 1", "", 1, 4},
		// two that depend on one another
		{"0 store 0 0;1 store 0 0", "", 2, 5},
		{"0 load 0 0;1 store 0 0", "", 2, 5},
		{"0 store 0 0;2 load 0 0", "", 2, 5},
		{"0 store 0 0;1 load 0 0;2 set 0 1", "", 2, 10},
		// both others depend on 0, but not on one another
		{"0 store 0 0;1 load 0 0;2 load 0 0", "", 4, 13},
		// three that depend on one another: all orders
		{"0 store 0 0;1 store 0 0;2 store 0 0", "", 6, 16},
		// locks
		{"0 lock 0;1 lock 0", "deadlock", 2, 3},
		{"0 lock 0;0 unlock 0;1 lock 0;1 unlock 0", "", 2, 9},
		{"0 lock 0;0 lock 1;1 lock 1;1 lock 0", "deadlock", 3, 6},
		{"0 lock 1;0 lock 1", "deadlock", 1, 2},
		{"0 unlock 0;1 unlock 0", "fault 0 0, fault 1 0", 2, 5},
		{"1 assert 0 5;2 assert 1 6", "assert 1 0, assert 2 0", 1, 4},
		// nobody can, with one that is stuck: a schedule all the same
		{"0 lock 0;1 lock 0;1 assert 0 1;2 set 0 1", "assert 1 1, deadlock", 2, 8},
		// bugs that are found only by one that slept, and wakes
		{"0 load 0 0;0 assert 0 0;1 set 0 1;1 store 0 0", "assert 0 1", 2, 11},
		{"0 load 0 0;0 jump 0 3;0 lock 0;0 unlock 0;1 set 0 1;1 store 0 0", "fault 0 3", 2, 18},
		{"0 lock 0;0 load 0 0;0 jump 0 4;0 unlock 0;0 lock 0;0 unlock 0;1 set 0 1;1 store 0 0", "deadlock", 2, 23},
	} {
		p := programOf(t, row.lines)
		got, code := impl.SleepSearch(p)
		text := ""
		for i, b := range got.Bugs {
			word, _ := impl.BugText(b)
			if i > 0 {
				text += ", "
			}
			text += word
		}
		if text != row.bugs || got.Runs != row.runs || got.Nodes != row.nodes || code != 0 {
			t.Errorf("SleepSearch(%q) = %q, %d, %d, %d, not %q, %d, %d", row.lines, text, got.Runs, got.Nodes, code, row.bugs, row.runs, row.nodes)
		}
		wantClasses(t, p, row.runs)
	}
}

// All orders run, and all are of one class: where each thread stands is a node.
func TestSleepSearchOfAllLengths(t *testing.T) {
	for a := range 7 {
		for b := range 7 {
			for c := range 7 {
				p := setProgram(a, b, c)
				wantSleep(t, p, nil, 1, (a+1)*(b+1)*(c+1))
				if runs, _ := impl.CountRuns(p); runs > 5000 {
					wantClassesCode(t, p, impl.ErrBudget)
				} else {
					wantClasses(t, p, 1)
				}
			}
		}
	}
}

func TestNodesAtTheBound(t *testing.T) {
	for lines, want := range map[string]int{
		"0 load 0 2;0 unlock 0;0 load 0 1;0 store 2 1;0 store 1 1;0 set 1 2;1 store 2 1;1 store 1 1;1 store 1 1;1 lock 0;1 lock 0;1 set 1 1;2 unlock 0;2 store 2 0;2 store 1 0":                                           4999,
		"0 unlock 0;0 load 1 2;0 store 2 1;0 unlock 1;0 unlock 1;0 unlock 1;1 store 0 0;1 load 1 2;1 lock 0;1 lock 1;1 load 0 2;2 unlock 1;2 jump 1 6;2 load 1 0;2 assert 0 2;2 store 2 0;2 load 0 1":                     5000,
		"0 store 2 0;0 load 1 0;0 load 1 1;0 assert 0 2;0 load 1 0;0 store 1 1;1 load 0 0;1 unlock 0;1 store 2 1;1 store 1 1;1 load 0 0;1 load 0 2;2 jump 1 1;2 jump 0 2;2 store 0 1;2 assert 0 1;2 store 0 1;2 load 1 2": 5000,
		"0 store 1 1;0 lock 0;0 set 0 1;0 store 2 1;0 store 2 1;1 set 1 0;1 assert 0 0;1 store 1 1;1 store 1 1;1 load 0 0;1 store 1 0;2 store 1 0;2 load 0 1;2 load 1 1;2 store 2 1":                                      5000,
		"0 load 1 2;0 unlock 0;0 load 1 1;0 store 0 0;1 load 0 1;1 lock 0;1 store 2 0;1 store 1 0;1 store 1 0;2 unlock 0;2 store 2 1;2 store 2 1;2 unlock 1;2 store 2 1;2 load 0 0":                                       5001,
		"0 store 1 1;0 lock 0;0 store 0 0;0 store 0 1;0 lock 1;0 store 2 1;1 unlock 0;1 store 0 1;1 load 1 0;1 store 2 1;2 load 1 2;2 load 1 1;2 load 0 0;2 assert 0 2;2 unlock 1":                                        5001,
	} {
		p := programOf(t, lines)
		plain := plainSleep(p)
		if plain.nodes != want {
			t.Errorf("%q has %d nodes, not %d", lines, plain.nodes, want)
		}
		if want > 5000 {
			wantSleepCode(t, p, impl.ErrBudget)
		} else {
			wantSleep(t, p, plain.bugs, plain.runs, want)
		}
	}
	if impl.MaxRuns != 5000 {
		t.Error("MaxRuns is", impl.MaxRuns)
	}
}

// More states than all states may be are none too many here, as long as there are
// not too many nodes.
func TestSleepSearchOfManyStates(t *testing.T) {
	for _, lines := range []string{
		"0 jump 0 4;0 set 1 2;0 store 1 1;0 store 2 1;0 load 0 2;0 assert 0 0;1 unlock 0;1 set 0 1;1 store 2 0;1 load 0 2;1 lock 0;1 store 1 0;2 load 0 2;2 load 1 2;2 store 0 0;2 store 1 0;2 load 0 1;2 load 0 2",
		"0 assert 0 1;0 set 0 1;0 store 0 0;0 lock 0;0 load 0 2;0 jump 0 6;1 set 0 1;1 set 1 2;1 store 0 1;1 load 0 0;1 load 1 0;1 store 2 0;2 load 1 0;2 store 2 0;2 set 0 2;2 load 0 0;2 store 1 1;2 load 1 0",
	} {
		p := programOf(t, lines)
		want := plainSleep(p)
		if n := len(plainSpace(p)); n <= 2000 || want.nodes > 5000 || len(want.bugs) == 0 {
			t.Errorf("%q has %d states, %d nodes, bugs %v", lines, n, want.nodes, want.bugs)
		}
		wantSleep(t, p, want.bugs, want.runs, want.nodes)
		wantFullCode(t, p, impl.ErrBudget)
		wantClassesCode(t, p, impl.ErrBudget)
	}
}

func TestClassesAtTheBoundOfRuns(t *testing.T) {
	for _, row := range []struct {
		lines         string
		runs, classes int
	}{
		{"0 lock 1;0 load 1 0;0 store 0 0;0 lock 0;0 store 0 1;0 unlock 0;1 load 0 0;1 jump 1 4;1 unlock 0;1 store 2 0;1 lock 1;1 set 0 2;2 lock 0;2 load 1 0;2 set 0 2", 4999, 20},
		{"0 lock 1;0 unlock 1;0 store 1 0;0 load 1 2;1 unlock 1;1 assert 1 1;1 store 1 1;1 lock 0;1 load 0 1;2 assert 0 0;2 lock 0;2 lock 1;2 lock 1", 5000, 19},
		{"0 assert 0 0;0 lock 1;0 lock 0;1 jump 1 1;1 store 2 1;1 assert 0 1;1 lock 1;1 load 0 2;2 lock 0;2 unlock 0;2 store 0 1;2 set 1 0", 5000, 3},
		{"0 lock 1;0 unlock 1;0 lock 1;0 jump 1 4;0 set 1 2;0 store 0 1;1 unlock 0;1 store 1 0;2 load 1 2;2 store 1 1;2 store 1 0;2 lock 1;2 load 0 1", 5001, 11},
		{"0 jump 0 4;0 set 0 2;0 load 1 0;0 lock 1;0 assert 0 0;1 jump 1 1;1 jump 0 2;2 lock 1;2 unlock 1;2 lock 1;2 unlock 0;2 set 1 2;2 set 0 0", 5001, 3},
	} {
		p := programOf(t, row.lines)
		if n := plainRuns(p, newKey, map[string]int{}); n != row.runs {
			t.Errorf("%q has %d schedules, not %d", row.lines, n, row.runs)
		}
		if n := plainClasses(p); n != row.classes {
			t.Errorf("%q has %d classes, not %d", row.lines, n, row.classes)
		}
		if row.runs > 5000 {
			wantClassesCode(t, p, impl.ErrBudget)
		} else {
			wantClasses(t, p, row.classes)
		}
		if got, code := impl.SleepSearch(p); got.Runs != row.classes || code != 0 {
			t.Errorf("SleepSearch(%q) has %d schedules, %d, not %d", row.lines, got.Runs, code, row.classes)
		}
	}
}

func TestClassesAtTheBoundOfForms(t *testing.T) {
	for lines, want := range map[string]int{
		"0 load 0 2;0 store 2 0;0 store 2 1;0 store 0 0;1 store 2 1;1 lock 0;1 load 1 2;1 store 2 0;1 store 0 0;2 store 2 0;2 lock 0;2 load 0 2":                                                               299,
		"0 lock 1;0 load 1 0;0 load 0 2;0 load 1 2;0 load 1 2;0 set 0 2;1 store 2 0;1 store 2 0;1 lock 1;1 load 0 2;1 load 0 2;1 unlock 1;2 store 2 1;2 store 2 0;2 lock 1;2 store 2 1;2 store 0 1;2 unlock 1": 299,
		"0 store 0 1;0 load 0 2;0 load 1 2;1 assert 1 1;1 load 0 0;1 load 1 2;1 store 2 0;1 load 1 2;1 store 2 0;2 store 0 0;2 store 2 1":                                                                      300,
		"0 load 0 1;0 store 1 1;0 unlock 0;1 unlock 0;1 store 1 0;2 store 1 0;2 store 1 0;2 unlock 0;2 store 1 1;2 unlock 0;2 store 2 0":                                                                       301,
		"0 unlock 0;0 store 2 0;0 unlock 0;0 lock 1;0 store 1 0;0 store 2 0;1 lock 0;1 store 2 1;1 lock 1;1 assert 0 0;1 load 0 2;2 unlock 0;2 store 2 0;2 lock 0;2 unlock 0":                                  301,
	} {
		p := programOf(t, lines)
		if n := plainRuns(p, newKey, map[string]int{}); n > 5000 {
			t.Errorf("%q has %d schedules", lines, n)
		}
		if n := plainClasses(p); n != want {
			t.Errorf("%q has %d classes, not %d", lines, n, want)
		}
		if want > 300 {
			wantClassesCode(t, p, impl.ErrBudget)
		} else {
			wantClasses(t, p, want)
		}
		if got, code := impl.SleepSearch(p); got.Runs != want || code != 0 { // the bound is that of classes alone
			t.Errorf("SleepSearch(%q) has %d schedules, %d, not %d", lines, got.Runs, code, want)
		}
	}
}

func TestSleepOfTooManyStates(t *testing.T) {
	for _, p := range beyondPrograms(t) {
		wantSleepCode(t, p, impl.ErrBudget)
		wantClassesCode(t, p, impl.ErrBudget)
	}
	for lines, states := range boundPrograms() {
		if states > 2000 {
			wantClassesCode(t, programOf(t, lines), impl.ErrBudget)
		}
	}
}

func TestSleepOfWrongPrograms(t *testing.T) {
	for _, p := range wrongPrograms() {
		wantSleepCode(t, p, impl.ErrBad)
		wantClassesCode(t, p, impl.ErrBad)
	}
}

// plainNext is an event with the code that the chapter asks for.
func plainNext(p impl.Program, key string, k int) (impl.Event, int) {
	switch {
	case k < 0 || k > 2:
		return impl.Event{}, impl.ErrRange
	case plainDone(p, key, k):
		return impl.Event{}, impl.ErrDone
	}
	return plainEvent(p, key, k), 0
}

// plainStill asks for each fault by a loop of its own.
func plainStill(p impl.Program, key string, sleep []int, k int) ([]int, int) {
	if len(sleep) > 4096 {
		return nil, impl.ErrLong
	}
	for _, j := range append([]int{k}, sleep...) {
		if j < 0 || j > 2 {
			return nil, impl.ErrRange
		}
	}
	for _, j := range append([]int{k}, sleep...) {
		if plainDone(p, key, j) {
			return nil, impl.ErrDone
		}
	}
	var still []int
	for _, j := range sleep {
		if !plainDepends(plainEvent(p, key, j), plainEvent(p, key, k)) {
			still = append(still, j)
		}
	}
	return still, 0
}

func wantNext(t *testing.T, p impl.Program, key string, k int) int {
	t.Helper()
	want, wantCode := plainNext(p, key, k)
	if e, code := impl.NextEvent(p, vmOfKey(key), k); e != want || code != wantCode {
		t.Errorf("NextEvent(%v, %s, %d) = %v, %d, not %v, %d", p, key, k, e, code, want, wantCode)
	}
	return wantCode
}

func wantStill(t *testing.T, p impl.Program, key string, sleep []int, k int) ([]int, int) {
	t.Helper()
	want, wantCode := plainStill(p, key, sleep, k)
	if list, code := impl.StillSleeps(p, vmOfKey(key), sleep, k); !slices.Equal(list, want) || code != wantCode {
		t.Errorf("StillSleeps(%v, %s, %v, %d) = %v, %d, not %v, %d", p, key, sleep, k, list, code, want, wantCode)
	}
	return want, wantCode
}

// listsUpTo has all lists of at most n numbers from low to high, also with some
// of them twice.
func listsUpTo(n, low, high int) [][]int {
	lists := [][]int{nil}
	for at := 0; at < len(lists); at++ {
		if len(lists[at]) == n {
			break
		}
		for j := low; j <= high; j++ {
			lists = append(lists, append(slices.Clone(lists[at]), j))
		}
	}
	return lists
}

// States that are met, and states of other programs, in which a thread may stand
// behind its end, or wait for nobody's lock but its own.
func TestNextEventsOfManyStates(t *testing.T) {
	count := map[int]int{}
	for i, p := range slices.Concat(stillPrograms(t), closePrograms()[:60], rightPrograms()[300:340]) {
		keys := keysOf(plainSpace(p))
		for n, key := range append(keys, rightKeys()[i:i+60]...) {
			for k := -1; k <= 3; k++ {
				count[wantNext(t, p, key, k)]++
				sleeps := listsUpTo(2, 0, 2)
				wantStill(t, p, key, sleeps[(n+i)%len(sleeps)], k)
			}
			if plainStuck(p, key) {
				count[impl.ErrBlocked]++
			}
		}
	}
	for _, code := range []int{impl.OK, impl.ErrRange, impl.ErrDone, impl.ErrBlocked} {
		if count[code] < 30 {
			t.Errorf("hardly any of code %d: %v", code, count)
		}
	}
}

func TestNextEventsByHand(t *testing.T) {
	const p = "0 load 1 3;0 store 2 1;0 set 0 7;0 add 1 9;0 lock 1;0 unlock 0;1 jump 0 2;1 assert 1 4;1 lock 0"
	for _, row := range []struct {
		key  string
		k    int
		want impl.Event
		code int
	}{
		{newKey, 0, impl.Event{Thread: 0, Pc: 0, Op: 1, Obj: 3}, 0},
		{"1" + newKey[1:], 0, impl.Event{Thread: 0, Pc: 1, Op: 2, Obj: 2}, 0},
		{"2" + newKey[1:], 0, impl.Event{Thread: 0, Pc: 2, Op: 3, Obj: -1}, 0},
		{"3" + newKey[1:], 0, impl.Event{Thread: 0, Pc: 3, Op: 4, Obj: -1}, 0},
		{"4" + newKey[1:], 0, impl.Event{Thread: 0, Pc: 4, Op: 5, Obj: 5}, 0},
		{"5" + newKey[1:], 0, impl.Event{Thread: 0, Pc: 5, Op: 6, Obj: 4}, 0},
		{"0" + newKey[1:], 1, impl.Event{Thread: 1, Pc: 0, Op: 7, Obj: -1}, 0},
		{"01" + newKey[2:], 1, impl.Event{Thread: 1, Pc: 1, Op: 8, Obj: -1}, 0},
		{"02" + newKey[2:], 1, impl.Event{Thread: 1, Pc: 2, Op: 5, Obj: 4}, 0},
		// one that waits, for another one's lock and for its own; a state that is stuck
		{"020" + "0000" + "10" + "000000", 1, impl.Event{Thread: 1, Pc: 2, Op: 5, Obj: 4}, 0},
		{"020" + "0000" + "20" + "000000", 1, impl.Event{Thread: 1, Pc: 2, Op: 5, Obj: 4}, 0},
		{"420" + "0000" + "12" + "000000", 0, impl.Event{Thread: 0, Pc: 4, Op: 5, Obj: 5}, 0},
		{"420" + "0000" + "12" + "000000", 1, impl.Event{Thread: 1, Pc: 2, Op: 5, Obj: 4}, 0},
		// at the end, behind it, without code
		{"600" + "0000" + "00" + "000000", 0, impl.Event{}, impl.ErrDone},
		{"030" + "0000" + "00" + "000000", 1, impl.Event{}, impl.ErrDone},
		{"060" + "0000" + "00" + "000000", 1, impl.Event{}, impl.ErrDone},
		{newKey, 2, impl.Event{}, impl.ErrDone},
		{"006" + "0000" + "00" + "000000", 2, impl.Event{}, impl.ErrDone},
		{newKey, 3, impl.Event{}, impl.ErrRange},
		{newKey, -1, impl.Event{}, impl.ErrRange},
		{greatestOfKey, math.MinInt, impl.Event{}, impl.ErrRange},
		{greatestOfKey, math.MaxInt, impl.Event{}, impl.ErrRange},
	} {
		if e, code := impl.NextEvent(programOf(t, p), vmOfKey(row.key), row.k); e != row.want || code != row.code {
			t.Errorf("NextEvent at %s of %d = %v, %d, not %v, %d", row.key, row.k, e, code, row.want, row.code)
		}
	}
}

// Of each two instructions of two threads, whoever sleeps.
func TestStillSleepsOfEachPair(t *testing.T) {
	lines := []string{"load 0 0", "load 1 0", "load 0 1", "store 0 0", "store 0 1", "store 1 0", "store 3 0", "load 0 3", "set 0 1", "add 0 1",
		"lock 0", "unlock 0", "lock 1", "unlock 1", "jump 0 1", "assert 0 0", "assert 0 1"}
	count := map[bool]int{}
	for _, one := range lines {
		for _, other := range lines {
			p := programOf(t, "0 "+one+";1 "+other+";2 "+one)
			for _, held := range []string{"00", "10", "02", "33"} { // whether they wait makes no odds
				key := "000" + "0000" + held + "000000"
				for _, sleep := range listsUpTo(3, 0, 2) {
					for k := range 3 {
						still, _ := wantStill(t, p, key, sleep, k)
						count[len(still) == len(sleep)]++
					}
				}
			}
		}
	}
	if count[true] < 1000 || count[false] < 1000 {
		t.Error("hardly any that wake or sleep on", count)
	}
}

func TestStillSleepsByHand(t *testing.T) {
	const reads = "0 load 0 0;1 load 1 0;2 store 0 0"
	const locks = "0 lock 0;0 unlock 0;1 lock 0;2 lock 1;2 unlock 1"
	for _, row := range []struct {
		lines, key string
		sleep      []int
		k          int
		want       []int
	}{
		// nobody asleep
		{reads, newKey, nil, 0, nil},
		{reads, newKey, []int{}, 2, nil},
		// loads sleep through loads, a store wakes all of its place
		{reads, newKey, []int{0}, 1, []int{0}},
		{reads, newKey, []int{1}, 0, []int{1}},
		{reads, newKey, []int{0, 1}, 2, nil},
		{reads, newKey, []int{2}, 0, nil},
		{reads, newKey, []int{1, 2}, 0, []int{1}},
		{reads, newKey, []int{2, 1}, 0, []int{1}},
		// everybody asleep: who goes is among those that wake
		{reads, newKey, []int{0, 1, 2}, 0, []int{1}},
		{reads, newKey, []int{0, 1, 2}, 1, []int{0}},
		{reads, newKey, []int{0, 1, 2}, 2, nil},
		{"0 set 0 1;1 add 0 1;2 assert 0 0", newKey, []int{0, 1, 2}, 1, []int{0, 2}},
		// in the order of the list, and as often as they are there
		{"0 set 0 1;1 add 0 1;2 assert 0 0", newKey, []int{2, 0}, 1, []int{2, 0}},
		{"0 set 0 1;1 add 0 1;2 assert 0 0", newKey, []int{2, 0, 1, 2, 2, 0}, 1, []int{2, 0, 2, 2, 0}},
		// a lock wakes those at it, that of another lock does not
		{locks, newKey, []int{0, 2}, 1, []int{2}},
		{locks, newKey, []int{0, 1}, 2, []int{0, 1}},
		// 0 has the lock: it wakes 1, which waits for it; so would 1, which waits, wake 0
		{locks, "100" + "0000" + "10" + "000000", []int{1, 2}, 0, []int{2}},
		{locks, "100" + "0000" + "10" + "000000", []int{0, 2}, 1, []int{2}},
		{locks, "101" + "0000" + "13" + "000000", []int{1, 2}, 0, []int{2}},
		// where they stand counts, not where they began
		{"0 load 0 0;0 set 0 1;1 store 0 0;2 set 0 1;2 load 0 0", newKey, []int{0, 2}, 1, []int{2}},
		{"0 load 0 0;0 set 0 1;1 store 0 0;2 set 0 1;2 load 0 0", "101" + newKey[3:], []int{0, 2}, 1, []int{0}},
	} {
		list, code := impl.StillSleeps(programOf(t, row.lines), vmOfKey(row.key), row.sleep, row.k)
		if !slices.Equal(list, row.want) || code != 0 {
			t.Errorf("StillSleeps(%q, %s, %v, %d) = %v, %d, not %v", row.lines, row.key, row.sleep, row.k, list, code, row.want)
		}
	}
}

// Of all lists of threads within bounds and beside them, with threads that are
// done: what is out of bounds comes ahead of what is done, wherever it stands.
func TestStillSleepsOfWrongSleepers(t *testing.T) {
	count := map[int]int{}
	p := programOf(t, "0 set 0 1;1 load 0 0;2 store 0 0")
	for _, key := range []string{newKey, "100" + newKey[3:], "010" + newKey[3:], "012" + newKey[3:], "666" + newKey[3:]} {
		for _, sleep := range listsUpTo(3, -1, 3) {
			for k := -1; k <= 3; k++ {
				_, code := wantStill(t, p, key, sleep, k)
				count[code]++
			}
		}
	}
	if count[impl.OK] < 60 || count[impl.ErrRange] < 200 || count[impl.ErrDone] < 60 {
		t.Error("hardly any of some code", count)
	}
	for _, row := range []struct {
		sleep []int
		k     int
		want  int
	}{
		// 0 is done, 1 and 2 are not
		{[]int{0, 3}, 1, impl.ErrRange},
		{[]int{3, 0}, 1, impl.ErrRange},
		{[]int{0, 1, 2, -1}, 0, impl.ErrRange},
		{[]int{0}, 3, impl.ErrRange},
		{nil, -1, impl.ErrRange},
		{[]int{math.MinInt}, 0, impl.ErrRange},
		{[]int{math.MaxInt}, 1, impl.ErrRange},
		{[]int{1 << 32}, 1, impl.ErrRange},
		{[]int{1, 2, 0}, 1, impl.ErrDone},
		{[]int{1, 2}, 0, impl.ErrDone},
		{[]int{0}, 0, impl.ErrDone},
		{nil, 0, impl.ErrDone},
		{[]int{1, 2}, 1, impl.OK},
	} {
		list, code := impl.StillSleeps(p, vmOfKey("1"+newKey[1:]), row.sleep, row.k)
		if code != row.want || len(list) != 0 {
			t.Errorf("StillSleeps of %v, %d = %v, %d, not %d", row.sleep, row.k, list, code, row.want)
		}
	}
}

func TestStillSleepsAtTheBoundOfLists(t *testing.T) {
	p := programOf(t, "0 set 0 1;1 load 0 0;2 store 0 0")
	full := make([]int, impl.MaxList)
	for i := range full {
		full[i] = i % 3
	}
	long := append(slices.Clone(full), 0)
	for k := -1; k <= 3; k++ {
		for _, key := range []string{newKey, "100" + newKey[3:]} {
			wantStill(t, p, key, full, k)
			wantStill(t, p, key, full[1:], k)
			wantStill(t, p, key, long, k)
		}
		for _, sleep := range [][]int{long, make([]int, 3*impl.MaxList), slices.Repeat([]int{-1}, impl.MaxList+1)} {
			for _, row := range []struct {
				p impl.Program
				s impl.Vm
			}{{p, impl.NewVm()}, {impl.Program{}, impl.NewVm()}, {p, impl.Vm{}}, {impl.Program{}, impl.Vm{}}} {
				if list, code := impl.StillSleeps(row.p, row.s, sleep, k); len(list) != 0 || code != impl.ErrLong {
					t.Errorf("StillSleeps of %d sleepers = %v, %d", len(sleep), list, code)
				}
			}
		}
	}
}

// wantStateBad asks for ErrBad, whoever sleeps and goes.
func wantStateBad(t *testing.T, name string, p impl.Program, s impl.Vm) {
	t.Helper()
	for _, k := range []int{0, 1, 2, -1, 3, math.MinInt, math.MaxInt} {
		if e, code := impl.NextEvent(p, s, k); e != (impl.Event{}) || code != impl.ErrBad {
			t.Errorf("%s: NextEvent of %d = %v, %d", name, k, e, code)
		}
		for _, sleep := range [][]int{nil, {0}, {0, 1, 2}, {-1}, {7, 0}, make([]int, impl.MaxList)} {
			if list, code := impl.StillSleeps(p, s, sleep, k); len(list) != 0 || code != impl.ErrBad {
				t.Errorf("%s: StillSleeps of %d sleepers, %d = %v, %d", name, len(sleep), k, list, code)
			}
		}
	}
}

func TestSleepersOfWrongStates(t *testing.T) {
	for _, p := range stillPrograms(t)[:2] {
		for i, s := range wrongVms() {
			wantStateBad(t, fmt.Sprint("state ", i), p, s)
		}
	}
	for i, p := range wrongPrograms() {
		wantStateBad(t, fmt.Sprint("program ", i), p, impl.NewVm())
		wantStateBad(t, fmt.Sprint("program and state ", i), p, impl.Vm{})
	}
}
