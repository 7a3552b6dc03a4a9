package tests

import (
	"fmt"
	"slices"
	"strings"
	"testing"

	"loop.example/g00632/impl"
)

// met is a state with the schedule by which it was met first.
type met struct {
	key string
	way []int
}

// plainSpace is a second, plain writing that goes from key to key by plainStep,
// with whole schedules; it stops behind the first state that is too many.
func plainSpace(p impl.Program) []met {
	all := []met{{key: newKey}}
	seen := map[string]bool{newKey: true}
	for at := 0; at < len(all) && len(all) <= 2000; at++ {
		for k := range 3 {
			next, _, code := plainStep(p, all[at].key, k)
			if code == 0 && !seen[next] {
				seen[next] = true
				all = append(all, met{next, append(slices.Clone(all[at].way), k)})
			}
		}
	}
	return all
}

// plainFinds has, of each bug that there is, the first schedule that finds it.
func plainFinds(p impl.Program, all []met) map[impl.Bug][]int {
	finds := map[impl.Bug][]int{}
	find := func(b impl.Bug, way []int) {
		if _, there := finds[b]; !there {
			finds[b] = way
		}
	}
	for _, s := range all {
		if plainStuck(p, s.key) {
			find(impl.Bug{Kind: 14}, s.way)
		}
		for k := range 3 {
			if _, kind, code := plainStep(p, s.key, k); code == 0 && kind != 0 {
				find(impl.Bug{Kind: kind, Thread: k, Pc: int(s.key[k] - '0')}, append(slices.Clone(s.way), k))
			}
		}
	}
	return finds
}

// plainRuns counts without a bound: there are no more than 17153136.
func plainRuns(p impl.Program, key string, known map[string]int) int {
	if n, there := known[key]; there {
		return n
	}
	n := 0
	for _, k := range plainEnabled(p, key) {
		next, _, _ := plainStep(p, key, k)
		n += plainRuns(p, next, known)
	}
	known[key] = max(n, 1)
	return known[key]
}

func bugsOf(finds map[impl.Bug][]int) []impl.Bug {
	var found []impl.Bug
	for b := range finds {
		found = append(found, b)
	}
	return plainMerge(found)
}

func keysOf(all []met) []string {
	var keys []string
	for _, s := range all {
		keys = append(keys, s.key)
	}
	return keys
}

// wantFull asks for one program's answers to all calls of chapter 7. Of bugs that
// there are none of it asks for every few-th alone, and, unless that is each one,
// for a few keys alone, as each takes a whole search.
func wantFull(t *testing.T, p impl.Program, keys []string, finds map[impl.Bug][]int, runs, few int) {
	t.Helper()
	if got, code := impl.AllStates(p); !slices.Equal(got, keys) || code != 0 {
		t.Errorf("AllStates(%v) = %v, %d, not %v", p, got, code, keys)
	}
	if got, code := impl.AllBugs(p); !slices.Equal(got, bugsOf(finds)) || code != 0 {
		t.Errorf("AllBugs(%v) = %v, %d, not %v", p, got, code, bugsOf(finds))
	}
	if got, code := impl.CountRuns(p); got != runs || code != 0 {
		t.Errorf("CountRuns(%v) = %d, %d, not %d", p, got, code, runs)
	}
	every, _ := plainBugs()
	for i, b := range every {
		way, there := finds[b]
		if there || i%few == len(keys)%few {
			wantWitness(t, p, b, way, there)
		}
	}
	for i, key := range keys {
		if few == 1 || i%(len(keys)/2+1) == len(keys)/2 || i == len(keys)-1 {
			wantReached(t, p, key, true)
			for _, bent := range bentKeys(key) {
				wantReached(t, p, bent, slices.Contains(keys, bent))
			}
		}
	}
}

// bentKeys are of right states, each of another number at one place.
func bentKeys(key string) []string {
	var all []string
	for _, at := range []int{0, 2, 3, 7, 9, 14} {
		digit := (key[at]-'0'+1)%(greatestOfKey[at]-'0'+1) + '0'
		all = append(all, key[:at]+string([]byte{digit})+key[at+1:])
	}
	return all
}

func wantWitness(t *testing.T, p impl.Program, b impl.Bug, way []int, there bool) {
	t.Helper()
	list, code := impl.WitnessOf(p, b)
	if !there {
		if len(list) != 0 || code != impl.ErrNone {
			t.Errorf("WitnessOf(%v, %v) = %v, %d, not none", p, b, list, code)
		}
		return
	}
	if !slices.Equal(list, way) || code != 0 {
		t.Errorf("WitnessOf(%v, %v) = %v, %d, not %v", p, b, list, code, way)
	}
	if ok, code := impl.IsWitness(p, list, b); !ok || code != 0 {
		t.Errorf("%v is no witness of %v in %v: %d", list, b, p, code)
	}
}

func wantReached(t *testing.T, p impl.Program, key string, want bool) {
	t.Helper()
	if got, code := impl.IsReached(p, key); got != want || code != 0 {
		t.Errorf("IsReached(%v, %.40q) = %v, %d, not %v", p, key, got, code, want)
	}
}

// wantFullCode asks for a code of all calls, and nothing else.
func wantFullCode(t *testing.T, p impl.Program, want int) {
	t.Helper()
	if keys, code := impl.AllStates(p); len(keys) != 0 || code != want {
		t.Errorf("AllStates(%.60v) = %v, %d, not %d", p, keys, code, want)
	}
	if bugs, code := impl.AllBugs(p); len(bugs) != 0 || code != want {
		t.Errorf("AllBugs(%.60v) = %v, %d, not %d", p, bugs, code, want)
	}
	if n, code := impl.CountRuns(p); n != 0 || code != want {
		t.Errorf("CountRuns(%.60v) = %d, %d, not %d", p, n, code, want)
	}
	for _, b := range []impl.Bug{{Kind: 14}, {Kind: 12}, {Kind: 13, Thread: 2, Pc: 1}, {Kind: 12, Thread: 1, Pc: 5}} {
		wantWitnessCode(t, p, b, want)
	}
	for _, key := range []string{newKey, "100000000000000", "", "x", "700000000000000", strings.Repeat("0", impl.MaxText)} {
		wantReachedCode(t, p, key, want)
	}
}

func wantWitnessCode(t *testing.T, p impl.Program, b impl.Bug, want int) {
	t.Helper()
	if list, code := impl.WitnessOf(p, b); len(list) != 0 || code != want {
		t.Errorf("WitnessOf(%.60v, %v) = %v, %d, not %d", p, b, list, code, want)
	}
}

func wantReachedCode(t *testing.T, p impl.Program, key string, want int) {
	t.Helper()
	if yes, code := impl.IsReached(p, key); yes || code != want {
		t.Errorf("IsReached(%.60v, %.40q) = %v, %d, not %d", p, key, yes, code, want)
	}
}

// wantPlain holds all calls against the plain ones, and tells how many states there are.
func wantPlain(t *testing.T, p impl.Program, few int) int {
	t.Helper()
	all := plainSpace(p)
	if len(all) > 2000 {
		wantFullCode(t, p, impl.ErrBudget)
		return len(all)
	}
	runs := plainRuns(p, newKey, map[string]int{})
	wantFull(t, p, keysOf(all), plainFinds(p, all), min(runs, 1000000), few)
	return len(all)
}

// racingPrograms go by a plain rule: their threads write into each other's places,
// so that they have many states, and some of them too many.
func racingPrograms() []impl.Program {
	few := []impl.Instr{{Op: 1}, {Op: 1, A: 1, B: 1}, {Op: 2}, {Op: 2, A: 1, B: 1}, {Op: 2, B: 1}, {Op: 4, B: 1}, {Op: 1, A: 1}, {Op: 2, A: 1}, {Op: 6}, {Op: 8, B: 2}, {Op: 1, B: 1}}
	var all []impl.Program
	state := uint32(11)
	for i := range 80 {
		p := impl.Program{Code: make([][]impl.Instr, 3)}
		for k := range 3 {
			for range 6 - i/(k+2)%3 {
				state = state*1664525 + 1013904223
				p.Code[k] = append(p.Code[k], few[state>>20%uint32(len(few))])
			}
			p.Code[k][i%3] = impl.Instr{Op: 4, B: k + 1}
			p.Code[k][i%3+1] = impl.Instr{Op: 2, A: i % 2}
		}
		all = append(all, p)
	}
	return all
}

func TestAllStatesOfManyPrograms(t *testing.T) {
	count := map[string]int{}
	for _, p := range slices.Concat(rightPrograms(), closePrograms(), stillPrograms(t), racingPrograms()) {
		switch n := wantPlain(t, p, 7); {
		case n > 2000:
			count["beyond"]++
		case n > 200:
			count["many"]++
		default:
			count["some"]++
		}
		bugs, _ := impl.AllBugs(p)
		for _, b := range bugs {
			count[impl.CodeWord(b.Kind)]++
		}
		if len(bugs) > 2 {
			count["several"]++
		}
	}
	for _, kind := range []string{"beyond", "many", "some", "assert", "fault", "deadlock", "several"} {
		if count[kind] < 5 {
			t.Errorf("hardly any %s: %v", kind, count)
		}
	}
}

// Of each bug and each key nothing is left out.
func TestAllStatesOfSomePrograms(t *testing.T) {
	for _, p := range append(stillPrograms(t), closePrograms()[3], closePrograms()[40], waysOfTwoLengths(t)) {
		wantPlain(t, p, 1)
	}
}

// waysOfTwoLengths has states that are met by a jump earlier than without it, and
// steps behind them.
func waysOfTwoLengths(t *testing.T) impl.Program {
	return programOf(t, "0 load 0 0;0 jump 0 4;0 set 0 1;0 set 0 1;1 set 0 1;1 store 0 0;2 set 0 1")
}

func TestRunsOfWaysOfTwoLengths(t *testing.T) {
	p := waysOfTwoLengths(t)
	// thread 0 jumps in 1 of the 15 orders of its steps and those of 1
	if n, code := impl.CountRuns(p); n != 1*5+14*7 || code != 0 {
		t.Errorf("CountRuns = %d, %d", n, code)
	}
	keys, _ := impl.AllStates(p)
	key := "421" + "1000" + "00" + "101010"
	s, _, _ := impl.RunSchedule(p, []int{1, 1, 0, 0, 2})
	other, _, _ := impl.RunSchedule(p, []int{0, 0, 0, 0, 1, 1, 2})
	if keyOfVm(s) != key || keyOfVm(other) != key || keys[len(keys)-1] == key || !slices.Contains(keys, key) {
		t.Errorf("the end %s of both ways is not met early: %v", key, keys)
	}
}

// scheduledAll goes by schedules alone: all that run, the shorter ones first,
// those of one length in their order; so it meets each state and each bug by the
// first schedule that there is.
func scheduledAll(p impl.Program) ([]string, map[impl.Bug][]int, int) {
	var keys []string
	finds := map[impl.Bug][]int{}
	runs := 0
	for _, list := range schedulesOf(p, 18) {
		key, bugs, _ := plainRun(p, list)
		if !slices.Contains(keys, key) {
			keys = append(keys, key)
		}
		for _, b := range bugs {
			if _, there := finds[b]; !there {
				finds[b] = list
			}
		}
		if len(plainEnabled(p, key)) == 0 {
			runs++
		}
	}
	return keys, finds, runs
}

func TestAllStatesByAllSchedules(t *testing.T) {
	programs := append(stillPrograms(t), waysOfTwoLengths(t), programOf(t, "0 lock 0;0 lock 1;1 lock 1;1 lock 0;2 lock 0;2 unlock 0"))
	for i, p := range closePrograms() {
		if i%3 == 0 && plainRuns(p, newKey, map[string]int{}) < 150 {
			programs = append(programs, p)
		}
	}
	if len(programs) < 30 {
		t.Errorf("only %d programs", len(programs))
	}
	for _, p := range programs {
		if plainRuns(p, newKey, map[string]int{}) < 2000 {
			keys, finds, runs := scheduledAll(p)
			wantFull(t, p, keys, finds, runs, 7)
		}
	}
}

// The theorem of witnesses, and that nothing leads out of what is reached, told by
// the program's own calls.
func TestReachedIsClosedUnderSteps(t *testing.T) {
	for i, p := range slices.Concat(rightPrograms(), closePrograms(), stillPrograms(t)) {
		keys, code := impl.AllStates(p)
		if code == impl.ErrBudget {
			continue
		}
		bugs, _ := impl.AllBugs(p)
		there := map[string]bool{}
		for _, key := range keys {
			if there[key] {
				t.Errorf("%v: %s is told twice", p, key)
			}
			there[key] = true
		}
		if len(keys) == 0 || keys[0] != keyOfVm(impl.NewVm()) {
			t.Fatalf("%v: a new state is not the first one", p)
		}
		for _, key := range keys {
			wantClosed(t, p, key, there, bugs)
		}
		list := turns(p, i)
		for n := range len(list) + 1 {
			s, found, _ := impl.RunSchedule(p, list[:n])
			for _, b := range found {
				if !slices.Contains(bugs, b) {
					t.Errorf("%v: %v finds %v, which is none of %v", p, list, b, bugs)
				}
			}
			if !there[keyOfVm(s)] {
				t.Errorf("%v: %v leads to %v, which is not reached", p, list[:n], s)
			}
		}
		for _, b := range bugs {
			list, code := impl.WitnessOf(p, b)
			if ok, _ := impl.IsWitness(p, list, b); !ok || code != 0 {
				t.Errorf("%v: %v is no witness of %v: %d", p, list, b, code)
			}
			if ok, _ := impl.IsWitness(p, list[:max(len(list)-1, 0)], b); ok {
				t.Errorf("%v: %v is longer than a witness of %v must be", p, list, b)
			}
		}
	}
}

func wantClosed(t *testing.T, p impl.Program, key string, there map[string]bool, bugs []impl.Bug) {
	t.Helper()
	s, code := impl.VmOf(key)
	if code != 0 || !impl.VmOK(p, s) {
		t.Fatalf("%v: %q is no state's key", p, key)
	}
	if stuck, _ := impl.IsStuck(p, s); stuck && !slices.Contains(bugs, impl.Bug{Kind: impl.ErrDeadlock}) {
		t.Errorf("%v: %s is stuck, and there is no deadlock", p, key)
	}
	can, _ := impl.EnabledOf(p, s)
	for _, k := range can {
		next, found, _ := impl.StepVm(p, s, k)
		if nextKey, _ := impl.KeyOf(next); !there[nextKey] {
			t.Errorf("%v: %s leads to %s, which is not there", p, key, nextKey)
		}
		if b := (impl.Bug{Kind: found, Thread: k, Pc: s.Pcs[k]}); found != 0 && !slices.Contains(bugs, b) {
			t.Errorf("%v: %s finds %v, which is not there", p, key, b)
		}
	}
}

// Programs whose states, bugs, witnesses and schedules are written out.
func TestAllStatesByHand(t *testing.T) {
	assert := func(k, pc int) impl.Bug { return impl.Bug{Kind: 12, Thread: k, Pc: pc} }
	fault := func(k, pc int) impl.Bug { return impl.Bug{Kind: 13, Thread: k, Pc: pc} }
	deadlock := impl.Bug{Kind: 14}
	const rest = "000000000000"
	for _, row := range []struct {
		lines string
		keys  string
		finds map[impl.Bug][]int
		runs  int
	}{
		// no code at all; one schedule alone
		{"", newKey, nil, 1},
		{"2 set 0 1", newKey + " 001000000000010", nil, 1},
		{"1 set 0 1;1 add 0 9", newKey + " 010000000001000 020000000000000", nil, 1},
		{"0 jump 0 2;0 assert 0 0", newKey + " 100" + rest + " 200" + rest, nil, 1},
		{"0 set 1 1;0 jump 1 3;0 assert 1 0", newKey + " 100000000010000 300000000010000", nil, 1},
		// states that are met by several ways, each once, at the place of the first
		{"0 add 0 0;1 add 0 0", newKey + " 100" + rest + " 010" + rest + " 110" + rest, nil, 2},
		{"0 add 0 0;1 add 0 0;2 add 0 0", newKey + " 100" + rest + " 010" + rest + " 001" + rest + " 110" + rest + " 101" + rest + " 011" + rest + " 111" + rest, nil, 6},
		{"0 add 0 0;0 add 0 0;2 add 0 0", newKey + " 100" + rest + " 001" + rest + " 200" + rest + " 101" + rest + " 201" + rest, nil, 3},
		// ends that are not alike
		{"0 set 0 1;0 store 0 0;2 store 0 0", newKey + " 100000000100000 001" + rest + " 200100000100000 101000000100000 201000000100000 201100000100000", nil, 3},
		// a bug of every kind, alone
		{"1 assert 0 5", newKey + " 010" + rest, map[impl.Bug][]int{assert(1, 0): {1}}, 1},
		{"1 assert 0 0", newKey + " 010" + rest, nil, 1},
		{"2 add 0 0;2 unlock 1", newKey + " 001" + rest + " 002" + rest, map[impl.Bug][]int{fault(2, 1): {2, 2}}, 1},
		{"0 lock 1;0 lock 1", newKey + " 100000001000000", map[impl.Bug][]int{deadlock: {0}}, 1},
		{"0 lock 0;0 unlock 0", newKey + " 100000010000000 200" + rest, nil, 1},
		// stuck, behind it nobody can: a schedule ends there
		{"0 lock 0;1 lock 0", newKey + " 100000010000000 010000020000000", map[impl.Bug][]int{deadlock: {0}}, 2},
		// several bugs in one program
		{"0 assert 0 1;0 unlock 0;0 lock 0;0 lock 0", newKey + " 100" + rest + " 200" + rest + " 300000010000000",
			map[impl.Bug][]int{assert(0, 0): {0}, fault(0, 1): {0, 0}, deadlock: {0, 0, 0}}, 1},
		// a bug that several schedules find: the shorter one, then the lesser one
		{"0 add 0 0;1 assert 0 1", newKey + " 100" + rest + " 010" + rest + " 110" + rest, map[impl.Bug][]int{assert(1, 0): {1}}, 2},
		{"0 lock 0;1 unlock 0", newKey + " 100000010000000 010" + rest + " 110000010000000", map[impl.Bug][]int{fault(1, 0): {1}}, 2},
	} {
		wantFull(t, programOf(t, row.lines), strings.Split(row.keys, " "), row.finds, row.runs, 1)
	}
}

// Which of several schedules it is, written out.
func TestWitnessesOfTheFirst(t *testing.T) {
	for _, row := range []struct {
		lines string
		bug   string
		want  []int
	}{
		{"0 lock 0;0 lock 1;1 lock 1;1 lock 0", "deadlock", []int{0, 0}},
		{"0 lock 0;0 lock 1;0 unlock 1;0 unlock 0;1 lock 1;1 lock 0;1 unlock 0;1 unlock 1", "deadlock", []int{0, 1}},
		{"1 lock 0;1 lock 1;1 unlock 1;1 unlock 0;2 lock 1;2 lock 0;2 unlock 0;2 unlock 1", "deadlock", []int{1, 2}},
		// 0 alone is stuck late, behind its own lock; 1 is so earlier
		{"0 set 0 1;0 set 0 1;0 lock 0;1 set 0 1;1 lock 0", "deadlock", []int{0, 0, 0, 1}},
		{"0 lock 1;0 set 0 1;1 lock 0;1 lock 0;2 lock 0;2 lock 0", "deadlock", []int{0, 0, 1}},
		// a short way with a greater thread comes ahead of a long one with lesser ones
		{"0 set 0 1;0 store 0 0;2 load 0 0;2 assert 0 1", "assert 2 1", []int{2, 2}},
		{"0 set 0 1;0 store 0 0;2 load 0 0;2 assert 0 0", "assert 2 1", []int{0, 0, 2, 2}},
		{"0 set 0 1;0 store 0 0;1 set 0 1;1 store 0 0;2 load 0 0;2 assert 0 0", "assert 2 1", []int{0, 0, 2, 2}},
		{"0 set 0 1;0 set 0 1;0 store 0 0;1 set 0 1;1 store 0 0;2 load 0 0;2 assert 0 0", "assert 2 1", []int{1, 1, 2, 2}},
		{"0 set 0 1;0 store 0 0;0 set 0 0;0 store 0 0;2 load 0 0;2 assert 0 0", "assert 2 1", []int{0, 0, 2, 2}},
		// both others are ahead of it, in the lesser of their orders
		{"0 set 0 1;0 store 0 0;1 set 1 3;1 load 0 0;1 add 0 1;1 store 1 0;2 load 0 1;2 add 0 8;2 jump 0 4;2 assert 0 1", "assert 2 3", []int{0, 0, 1, 1, 1, 1, 2, 2, 2, 2}},
		{"2 set 0 1;2 store 0 0;1 set 1 3;1 load 0 0;1 add 0 1;1 store 1 0;0 load 0 1;0 add 0 8;0 jump 0 4;0 assert 0 1", "assert 0 3", []int{1, 2, 2, 1, 1, 1, 0, 0, 0, 0}},
		// a fault by a lock of another one, which has gone by then
		{"0 lock 0;0 unlock 0;1 lock 0;1 unlock 0;1 unlock 0", "fault 1 2", []int{1, 1, 1}},
		{"0 load 0 0;0 jump 0 4;0 lock 0;0 set 1 0;0 unlock 0;1 set 0 1;1 store 0 0", "fault 0 4", []int{1, 1, 0, 0, 0}},
	} {
		p := programOf(t, row.lines)
		b, code := impl.ReadBug(row.bug)
		if code != 0 {
			t.Fatalf("%q is no bug: %d", row.bug, code)
		}
		wantWitness(t, p, b, row.want, true)
	}
}

// Bugs that are right, and near to one that there is, but that no schedule finds.
func TestWitnessesOfBugsThatThereAreNone(t *testing.T) {
	p := programOf(t, "0 assert 0 1;0 unlock 0;1 lock 0;1 assert 0 0;1 unlock 0")
	right := map[impl.Bug][]int{{Kind: 12}: {0}, {Kind: 13, Pc: 1}: {0, 0}}
	every, _ := plainBugs()
	for _, b := range every {
		way, there := right[b]
		wantWitness(t, p, b, way, there)
	}
	for _, p := range []impl.Program{programOf(t, ""), programOf(t, "2 set 0 1"), {Code: [][]impl.Instr{setting(6), setting(6), setting(6)}}} {
		for _, b := range every {
			wantWitness(t, p, b, nil, false)
		}
	}
	// an assertion that is jumped over, and one behind the end of what can be
	q := programOf(t, "0 set 0 1;0 jump 0 3;0 assert 1 5;1 lock 0;1 lock 0;1 unlock 1")
	for _, b := range []impl.Bug{{Kind: 12, Pc: 2}, {Kind: 13, Thread: 1, Pc: 2}} {
		wantWitness(t, q, b, nil, false)
	}
}

// setProgram has codes that touch nothing shared: all orders of their steps run.
func setProgram(a, b, c int) impl.Program {
	return impl.Program{Code: [][]impl.Instr{setting(a), setting(b), setting(c)}}
}

func TestRunsOfAllLengths(t *testing.T) {
	capped := 0
	factorial := []int{1}
	for n := 1; n <= 18; n++ {
		factorial = append(factorial, factorial[n-1]*n)
	}
	for a := range 7 {
		for b := range 7 {
			for c := range 7 {
				want := factorial[a+b+c] / factorial[a] / factorial[b] / factorial[c]
				if want > 1000000 {
					want = 1000000
					capped++
				}
				if n, code := impl.CountRuns(setProgram(a, b, c)); n != want || code != 0 {
					t.Errorf("CountRuns of %d, %d, %d steps = %d, %d, not %d", a, b, c, n, code, want)
				}
				if keys, code := impl.AllStates(setProgram(a, b, c)); len(keys) != (a+1)*(b+1)*(c+1) || code != 0 {
					t.Errorf("AllStates of %d, %d, %d steps: %d, %d", a, b, c, len(keys), code)
				}
			}
		}
	}
	if capped < 5 {
		t.Errorf("only %d counts go beyond the bound", capped)
	}
}

// Counts about the bound: a few schedules less or more than a million.
func TestRunsAtTheBoundOfCounts(t *testing.T) {
	for _, row := range []struct {
		lines       string
		runs, plain int
	}{
		{"0 store 2 0;0 set 0 2;0 store 1 0;0 store 1 1;0 lock 0;0 load 1 0;1 load 0 2;1 load 1 1;1 store 0 0;1 jump 0 5;1 add 1 1;1 set 0 0;2 load 1 1;2 jump 1 3;2 add 0 3;2 lock 0;2 set 1 3", 999999, 999999},
		{"0 add 0 2;0 store 0 0;0 store 0 0;0 store 2 0;0 lock 0;1 load 0 0;1 jump 0 5;1 store 0 0;1 set 1 1;1 lock 0;2 load 1 2;2 set 0 0;2 unlock 1;2 add 0 2;2 load 0 0;2 store 0 1", 1000000, 1000006},
		{"0 add 1 3;0 set 1 3;0 load 1 2;0 jump 1 5;0 store 1 1;0 add 1 3;1 store 1 1;1 add 1 1;1 store 2 1;1 store 0 1;1 add 1 2;1 store 0 0;2 add 1 2;2 store 2 1;2 store 0 0;2 set 0 2", 1000000, 1000020},
	} {
		p := programOf(t, row.lines)
		if n := plainRuns(p, newKey, map[string]int{}); n != row.plain {
			t.Errorf("%q has %d schedules, not %d", row.lines, n, row.plain)
		}
		if n, code := impl.CountRuns(p); n != row.runs || code != 0 {
			t.Errorf("CountRuns(%q) = %d, %d, not %d", row.lines, n, code, row.runs)
		}
		wantPlain(t, p, 7)
	}
}

// boundPrograms are lines of programs with just so many states; some of those of
// 2000 have many ends, and more than a million schedules in all.
func boundPrograms() map[string]int {
	return map[string]int{
		"0 add 1 3;0 store 0 1;0 store 2 1;0 load 1 1;0 load 0 1;0 lock 1;1 store 2 1;1 load 1 0;1 store 1 1;1 store 0 1;1 add 1 3;1 store 2 0;2 load 1 0;2 unlock 0;2 store 1 1;2 store 0 1":                        1999,
		"0 load 1 1;0 add 0 2;0 store 1 0;0 lock 0;1 load 0 1;1 load 1 1;1 store 1 1;1 store 2 0;2 add 0 1;2 store 1 0;2 store 2 1;2 store 1 1;2 load 1 1;2 jump 0 6":                                                1999,
		"0 add 1 2;0 store 1 1;0 store 0 1;0 load 0 0;1 set 0 1;1 store 1 0;1 store 0 0;1 store 0 0;1 store 0 0;1 load 1 1;2 load 1 0;2 lock 1;2 unlock 0;2 load 0 1;2 store 0 1;2 load 1 2":                         2000,
		"0 store 1 0;0 store 2 0;0 add 0 3;0 store 1 0;0 load 0 0;0 store 0 0;1 load 0 0;1 store 2 0;1 add 0 1;1 store 0 0;1 load 0 1;2 set 1 2;2 store 0 1;2 store 1 1;2 store 0 1;2 set 0 2;2 store 2 0":           2000,
		"0 store 0 1;0 load 1 0;0 store 1 1;0 set 0 0;1 set 0 2;1 store 0 0;1 add 0 3;1 store 1 0;1 load 0 0;1 store 0 1;2 set 1 1;2 store 0 1;2 store 1 0;2 load 0 0;2 store 2 0":                                   2000,
		"0 load 0 0;0 add 1 1;0 store 2 1;0 store 0 1;0 load 0 2;1 store 2 0;1 load 0 0;1 add 0 2;1 load 1 2;1 store 2 0;1 add 0 1;2 load 0 2;2 load 1 2;2 store 0 1;2 load 1 0":                                     2001,
		"0 load 1 2;0 store 0 0;0 add 0 3;0 add 1 2;0 store 2 1;0 set 1 2;1 store 1 0;1 add 1 3;1 store 2 1;1 store 1 0;1 load 0 2;1 store 0 0;2 store 1 1;2 unlock 1;2 load 0 2;2 store 2 1;2 store 1 0;2 load 1 2": 2001,
	}
}

func TestStatesAtTheBound(t *testing.T) {
	for lines, want := range boundPrograms() {
		p := programOf(t, lines)
		if n := wantPlain(t, p, 9); n != want {
			t.Errorf("%q has %d states, not %d", lines, n, want)
		}
		keys, code := impl.AllStates(p)
		if want > 2000 && code != impl.ErrBudget || want <= 2000 && len(keys) != want {
			t.Errorf("AllStates(%q): %d states, %d", lines, len(keys), code)
		}
	}
	if impl.MaxStates != 2000 {
		t.Error("MaxStates is", impl.MaxStates)
	}
}

// beyondPrograms have far more states than there may be, all of them with a fault
// and a failed assertion at once.
func beyondPrograms(t *testing.T) []impl.Program {
	var all []impl.Program
	for shift := range 3 {
		var lines []string
		for k := range 3 {
			first := []string{"assert 0 1", "unlock 0", "unlock 1"}[(k+shift)%3]
			for _, line := range []string{first, "add 0 " + fmt.Sprint(k+1), "store 0 0", "load 1 0", "store 1 1", "load 0 1"} {
				lines = append(lines, fmt.Sprint(k, " ", line))
			}
		}
		all = append(all, programOf(t, strings.Join(lines, ";")))
	}
	return all
}

// Too many states come ahead of a bug that the first step finds, of a key that is
// there from the first, and of what is not there; what is wrong comes ahead of it.
func TestCodesOfTooManyStates(t *testing.T) {
	for shift, p := range beyondPrograms(t) {
		wantFullCode(t, p, impl.ErrBudget)
		at := (3 - shift) % 3
		wantWitnessCode(t, p, impl.Bug{Kind: 12, Thread: at}, impl.ErrBudget)
		wantWitnessCode(t, p, impl.Bug{Kind: 13, Thread: (at + 1) % 3}, impl.ErrBudget)
		for _, b := range wrongBugs() {
			wantWitnessCode(t, p, b, impl.ErrBad)
		}
		for _, key := range []string{newKey + strings.Repeat("0", impl.MaxText), strings.Repeat("x", impl.MaxText+1)} {
			wantReachedCode(t, p, key, impl.ErrLong)
		}
	}
}

func TestAllStatesOfWrongPrograms(t *testing.T) {
	for _, p := range wrongPrograms() {
		wantFullCode(t, p, impl.ErrBad)
		wantWitnessCode(t, p, impl.Bug{}, impl.ErrBad)
		wantReachedCode(t, p, strings.Repeat("0", impl.MaxText+1), impl.ErrLong)
	}
}

func TestWitnessesOfBugsThatAreWrong(t *testing.T) {
	for _, p := range append(stillPrograms(t), beyondPrograms(t)[0], impl.Program{}) {
		for _, b := range wrongBugs() {
			wantWitnessCode(t, p, b, impl.ErrBad)
		}
	}
}

func TestKeysThatAreNotReached(t *testing.T) {
	p := programOf(t, "0 set 0 1;0 store 0 0;1 load 0 0;1 assert 0 1")
	wantReached(t, p, newKey, true)
	wantReached(t, p, "200100000100000", true)
	for _, key := range []string{
		// of right states: behind an end, of another value, with a lock
		"300000000000000", "200000000100000", "000000000000001", "000000010000000", "666999933999999", "001000000000000", "110000000101000",
		// of no state, of a wrong form
		"700000000000000", "000000040000000", "00000000000000:", "00000000000000/", "", "0", "x", newKey[1:], newKey + "0", newKey + " ", " " + newKey[1:],
		"00000000000000\xff", "00000000000000\x00", "\uff10" + newKey[3:], "-00000000000000", "0" + newKey, "200100000100000\n", newKey + newKey,
		strings.Repeat("0", impl.MaxText), strings.Repeat("0", impl.MaxText-1), long(impl.MaxText),
	} {
		wantReached(t, p, key, false)
	}
	for _, n := range []int{impl.MaxText + 1, impl.MaxText + 15, 2 * impl.MaxText} {
		wantReachedCode(t, p, strings.Repeat("0", n), impl.ErrLong)
	}
	keys, _ := impl.AllStates(p)
	for _, key := range rightKeys() {
		wantReached(t, p, key, slices.Contains(keys, key))
	}
	for _, key := range keys { // every byte at every place
		for at := range len(key) {
			for n := 47; n < 59; n++ {
				bent := key[:at] + string([]byte{byte(n)}) + key[at+1:]
				wantReached(t, p, bent, slices.Contains(keys, bent))
			}
		}
	}
}
