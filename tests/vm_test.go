package tests

import (
	"fmt"
	"math"
	"slices"
	"strings"
	"testing"

	"loop.example/g00632/impl"
)

// A second, plain writing of the machine works on keys: a byte of each number.
// Thread k stands at byte k, place v is byte 3+v, lock l is byte 7+l, register r
// of thread k is byte 9+2k+r.

const newKey = "000000000000000"

// greatestOfKey has the greatest digit at each byte of a key.
const greatestOfKey = "666" + "9999" + "33" + "999999"

func vmOfKey(key string) impl.Vm {
	list := make([]int, len(key))
	for i := range len(key) {
		list[i] = int(key[i]) - 48
	}
	return impl.Vm{Pcs: slices.Clone(list[:3]), Vars: slices.Clone(list[3:7]), Held: slices.Clone(list[7:9]), Regs: slices.Clone(list[9:])}
}

func numbersOfVm(s impl.Vm) []int {
	return slices.Concat(s.Pcs, s.Vars, s.Held, s.Regs)
}

func keyOfVm(s impl.Vm) string {
	text := ""
	for _, n := range numbersOfVm(s) {
		text += fmt.Sprint(n)
	}
	return text
}

func isZeroVm(s impl.Vm) bool {
	return len(numbersOfVm(s)) == 0
}

func plainDone(p impl.Program, key string, k int) bool {
	return int(key[k]-'0') >= len(p.Code[k])
}

func plainWaits(p impl.Program, key string, k int) bool {
	if plainDone(p, key, k) {
		return false
	}
	x := p.Code[k][key[k]-'0']
	return x.Op == 5 && key[7+x.A] != '0'
}

func plainEnabled(p impl.Program, key string) []int {
	var list []int
	for k := range 3 {
		if !plainDone(p, key, k) && !plainWaits(p, key, k) {
			list = append(list, k)
		}
	}
	return list
}

// plainStuck counts: somebody waits, and all the others wait or are done.
func plainStuck(p impl.Program, key string) bool {
	waiting, going := 0, 0
	for k := range 3 {
		if plainWaits(p, key, k) {
			waiting++
		} else if !plainDone(p, key, k) {
			going++
		}
	}
	return waiting > 0 && going == 0
}

// plainStep goes by an instruction's text, not by its numbers.
func plainStep(p impl.Program, key string, k int) (string, int, int) {
	if plainDone(p, key, k) {
		return key, 0, 10
	}
	if plainWaits(p, key, k) {
		return key, 0, 11
	}
	words := strings.Split(instrTexts[p.Code[k][key[k]-'0']]+" 0", " ")
	a, b := words[1][0], words[2][0]
	reg := 9 + 2*k + int(a-'0')
	me := byte('1' + k)
	out := []byte(key)
	out[k]++
	found := 0
	switch words[0] {
	case "load":
		out[reg] = key[3+b-'0']
	case "store":
		out[3+a-'0'] = key[9+2*k+int(b-'0')]
	case "set":
		out[reg] = b
	case "add":
		for ; b > '0'; b-- {
			out[reg]++
			if out[reg] > '9' {
				out[reg] = '0'
			}
		}
	case "lock":
		out[7+a-'0'] = me
	case "unlock":
		if key[7+a-'0'] == me {
			out[7+a-'0'] = '0'
		} else {
			found = 13
		}
	case "jump":
		if key[reg] != '0' {
			out[k] = b
		}
	case "assert":
		if key[reg] != b {
			found = 12
		}
	}
	return string(out), found, 0
}

// wantState holds every call of a program and a state against the plain ones,
// and tells the keys that its threads lead to.
func wantState(t *testing.T, p impl.Program, key string) []string {
	t.Helper()
	s := vmOfKey(key)
	if !impl.VmOK(p, s) {
		t.Fatalf("VmOK(%v, %v) is false", p, s)
	}
	if list, code := impl.EnabledOf(p, s); code != 0 || !slices.Equal(list, plainEnabled(p, key)) {
		t.Errorf("EnabledOf(%v, %s) = %v, %d, not %v", p, key, list, code, plainEnabled(p, key))
	}
	if stuck, code := impl.IsStuck(p, s); code != 0 || stuck != plainStuck(p, key) {
		t.Errorf("IsStuck(%v, %s) = %v, %d", p, key, stuck, code)
	}
	var next []string
	for k := range 3 {
		if done, code := impl.IsDone(p, s, k); code != 0 || done != plainDone(p, key, k) {
			t.Errorf("IsDone(%v, %s, %d) = %v, %d", p, key, k, done, code)
		}
		want, wantFound, wantCode := plainStep(p, key, k)
		x, found, code := impl.StepVm(p, s, k)
		if keyOfVm(x) != want || found != wantFound || code != wantCode {
			t.Errorf("StepVm(%v, %s, %d) = %v, %d, %d, not %s, %d, %d", p, key, k, x, found, code, want, wantFound, wantCode)
		}
		wantSmallTurn(t, s, x, k, code)
		if code == 0 {
			next = append(next, want)
		}
	}
	return next
}

// wantSmallTurn is the promise itself: one thread's place and registers, and one
// shared place or lock at most; nothing at all with a code.
func wantSmallTurn(t *testing.T, was, is impl.Vm, k, code int) {
	t.Helper()
	a, b := numbersOfVm(was), numbersOfVm(is)
	if len(a) != 15 || len(b) != 15 {
		t.Fatalf("a state of %d numbers turned into one of %d", len(a), len(b))
	}
	var own, common, others int
	for i := range a {
		switch {
		case a[i] == b[i]:
		case i == k || i == 9+2*k || i == 10+2*k:
			own++
		case 3 <= i && i < 9:
			common++
		default:
			others++
		}
	}
	if others > 0 || common > 1 || code != 0 && own+common > 0 || code == 0 && a[k] >= b[k] {
		t.Errorf("thread %d turned %v into %v", k, was, is)
	}
}

// statesOf has states of all edges: every place, every value, every owner.
func statesOf(pc int) []string {
	var all []string
	for n := range 10 {
		for owner := range 4 {
			for other := range 4 {
				pcs := strings.Repeat(fmt.Sprint(pc), 3)
				vars := fmt.Sprint(n, (n+3)%10, 9-n, (n*7+owner)%10)
				regs := fmt.Sprint((n+owner)%10, (n*3+other)%10, n, 9-n, (10-n)%10, (n*7)%10)
				all = append(all, pcs+strings.ReplaceAll(vars+fmt.Sprint(" ", owner, other, " ")+regs, " ", ""))
			}
		}
	}
	return all
}

func TestMachineBeginsAtNought(t *testing.T) {
	s := impl.NewVm()
	if len(s.Pcs) != 3 || len(s.Vars) != 4 || len(s.Held) != 2 || len(s.Regs) != 6 || keyOfVm(s) != newKey {
		t.Errorf("NewVm() = %v", s)
	}
	for _, p := range rightPrograms() {
		if !impl.VmOK(p, s) {
			t.Errorf("VmOK(%v, %v) is false", p, s)
		}
		wantState(t, p, newKey)
	}
}

// Every instruction at every place of every thread, in states of all edges.
func TestMachineStepsEachInstruction(t *testing.T) {
	for _, x := range sortedInstrs() {
		for at := range 6 {
			if x.Op == impl.OpJump && x.B <= at {
				continue
			}
			p := impl.Program{}
			for range 3 {
				code := setting(6)
				code[at] = x
				p.Code = append(p.Code, code)
			}
			for i, key := range statesOf(at) {
				if i%3 == at%3 {
					wantState(t, p, key)
				}
			}
		}
	}
}

// The last instruction of codes of each length, with other threads that are done or have none.
func TestMachineStepsToTheEndOfEachCode(t *testing.T) {
	for n := 1; n <= 6; n++ {
		for k := range 3 {
			p := impl.Program{Code: make([][]impl.Instr, 3)}
			p.Code[k] = setting(n)
			for at := range 7 {
				s := impl.NewVm()
				s.Pcs[k] = at
				wantState(t, p, keyOfVm(s))
				done, code := impl.IsDone(p, s, k)
				if done != (at >= n) || code != 0 {
					t.Errorf("at %d of %d: IsDone = %v, %d", at, n, done, code)
				}
				x, _, code := impl.StepVm(p, s, k)
				if at < n && (code != 0 || x.Pcs[k] != at+1) || at >= n && (code != impl.ErrDone || x.Pcs[k] != at) {
					t.Errorf("at %d of %d: StepVm = %v, %d", at, n, x, code)
				}
			}
			// jumps to the end itself
			p.Code[k][0] = impl.Instr{Op: impl.OpJump, A: 1, B: n}
			for _, reg := range []int{0, 1, 9} {
				s := impl.NewVm()
				s.Regs[2*k+1] = reg
				wantState(t, p, keyOfVm(s))
			}
		}
	}
}

func wantStep(t *testing.T, line, key string, found int, want string) {
	t.Helper()
	p, _ := impl.ReadProgram([]string{"0 set 0 0", line, "2 set 0 0"})
	x, gotFound, code := impl.StepVm(p, vmOfKey(key), 1)
	if keyOfVm(x) != want || gotFound != found || code != 0 {
		t.Errorf("%q in %s leads to %v, %d, %d, not %s, %d", line, key, x, gotFound, code, want, found)
	}
}

// What one step of thread 1 leads to, written out by hand.
func TestMachineStepsByHand(t *testing.T) {
	wantStep(t, "1 load 0 3", "000"+"1239"+"00"+"004500", 0, "010"+"1239"+"00"+"009500")
	wantStep(t, "1 load 1 0", "000"+"0239"+"00"+"994599", 0, "010"+"0239"+"00"+"994099")
	wantStep(t, "1 store 3 0", "000"+"1239"+"00"+"004500", 0, "010"+"1234"+"00"+"004500")
	wantStep(t, "1 store 0 1", "000"+"1239"+"00"+"884088", 0, "010"+"0239"+"00"+"884088")
	wantStep(t, "1 set 0 9", "000"+"0000"+"00"+"000000", 0, "010"+"0000"+"00"+"009000")
	wantStep(t, "1 set 1 0", "000"+"0000"+"00"+"999999", 0, "010"+"0000"+"00"+"999099")
	wantStep(t, "1 add 0 1", "000"+"0000"+"00"+"999999", 0, "010"+"0000"+"00"+"990999")
	wantStep(t, "1 add 1 9", "000"+"0000"+"00"+"999999", 0, "010"+"0000"+"00"+"999899")
	wantStep(t, "1 add 1 9", "000"+"0000"+"00"+"000000", 0, "010"+"0000"+"00"+"000900")
	wantStep(t, "1 add 0 0", "000"+"0000"+"00"+"009000", 0, "010"+"0000"+"00"+"009000")
	wantStep(t, "1 add 0 5", "000"+"0000"+"00"+"005000", 0, "010"+"0000"+"00"+"000000")
	wantStep(t, "1 add 0 4", "000"+"0000"+"00"+"005000", 0, "010"+"0000"+"00"+"009000")
	wantStep(t, "1 lock 0", "000"+"0000"+"00"+"000000", 0, "010"+"0000"+"20"+"000000")
	wantStep(t, "1 lock 1", "000"+"0000"+"30"+"000000", 0, "010"+"0000"+"32"+"000000")
	wantStep(t, "1 unlock 0", "000"+"0000"+"22"+"000000", 0, "010"+"0000"+"02"+"000000")
	wantStep(t, "1 unlock 1", "000"+"0000"+"22"+"000000", 0, "010"+"0000"+"20"+"000000")
	wantStep(t, "1 unlock 0", "000"+"0000"+"02"+"000000", impl.ErrFault, "010"+"0000"+"02"+"000000")
	wantStep(t, "1 unlock 0", "000"+"0000"+"12"+"000000", impl.ErrFault, "010"+"0000"+"12"+"000000")
	wantStep(t, "1 unlock 1", "000"+"0000"+"23"+"000000", impl.ErrFault, "010"+"0000"+"23"+"000000")
	wantStep(t, "1 jump 0 1", "000"+"0000"+"00"+"110111", 0, "010"+"0000"+"00"+"110111")
	wantStep(t, "1 assert 0 7", "000"+"0000"+"00"+"007000", 0, "010"+"0000"+"00"+"007000")
	wantStep(t, "1 assert 0 7", "000"+"0000"+"00"+"770777", impl.ErrAssert, "010"+"0000"+"00"+"770777")
	wantStep(t, "1 assert 1 0", "000"+"0000"+"00"+"111011", 0, "010"+"0000"+"00"+"111011")
	wantStep(t, "1 assert 1 9", "000"+"0000"+"00"+"998899", impl.ErrAssert, "010"+"0000"+"00"+"998899")
}

func TestMachineJumpsOrGoesOn(t *testing.T) {
	p, _ := impl.ReadProgram([]string{"1 jump 0 6", "1 jump 1 3", "1 set 0 0", "1 set 0 0", "1 jump 0 5", "1 set 0 0"})
	for _, row := range []struct{ at, zero, one, want int }{
		{0, 0, 9, 1}, {0, 1, 0, 6}, {0, 9, 0, 6}, {1, 9, 0, 2}, {1, 0, 1, 3}, {1, 0, 9, 3}, {4, 0, 0, 5}, {4, 5, 0, 5},
	} {
		s := impl.NewVm()
		s.Pcs[1], s.Regs[2], s.Regs[3] = row.at, row.zero, row.one
		x, found, code := impl.StepVm(p, s, 1)
		if x.Pcs[1] != row.want || found != 0 || code != 0 || !slices.Equal(x.Regs, s.Regs) {
			t.Errorf("%v leads to %v, %d, %d", row, x, found, code)
		}
	}
}

// A lock that anybody has makes its thread wait: another one's, and its own.
func TestMachineWaits(t *testing.T) {
	p, _ := impl.ReadProgram([]string{"0 lock 0", "1 lock 0", "2 lock 1"})
	for _, row := range []struct {
		key   string
		can   []int
		stuck bool
	}{
		{"000" + "0000" + "00" + "000000", []int{0, 1, 2}, false},
		{"000" + "0000" + "10" + "000000", []int{2}, false},
		{"000" + "0000" + "20" + "000000", []int{2}, false},
		{"000" + "0000" + "30" + "000000", []int{2}, false},
		{"000" + "0000" + "03" + "000000", []int{0, 1}, false},
		{"000" + "0000" + "01" + "000000", []int{0, 1}, false},
		{"000" + "0000" + "33" + "000000", nil, true},
		{"000" + "0000" + "12" + "000000", nil, true},
		{"100" + "0000" + "13" + "000000", nil, true},
		{"101" + "0000" + "10" + "000000", nil, true},
		{"111" + "0000" + "10" + "000000", nil, false},
		{"666" + "0000" + "33" + "000000", nil, false},
		{"116" + "0000" + "00" + "000000", nil, false},
		{"601" + "0000" + "02" + "000000", []int{1}, false},
	} {
		s := vmOfKey(row.key)
		list, code := impl.EnabledOf(p, s)
		stuck, stuckCode := impl.IsStuck(p, s)
		if !slices.Equal(list, row.can) || stuck != row.stuck || code != 0 || stuckCode != 0 {
			t.Errorf("%s: EnabledOf %v, %d, IsStuck %v, %d", row.key, list, code, stuck, stuckCode)
		}
		wantState(t, p, row.key)
	}
}

// stillPrograms wait and go on in many ways.
func stillPrograms(t *testing.T) []impl.Program {
	texts := []string{
		"0 lock 0;0 lock 1;0 unlock 1;0 unlock 0;1 lock 1;1 lock 0;1 unlock 0;1 unlock 1;2 lock 0;2 unlock 0",
		"0 lock 0;0 lock 0;1 lock 0;1 unlock 0;2 unlock 0",
		"0 lock 0;0 load 0 1;0 add 0 1;0 store 1 0;0 unlock 0;1 lock 0;1 load 0 1;1 add 0 1;1 store 1 0;1 unlock 0;2 load 1 1;2 assert 1 2",
		"0 set 0 9;0 add 0 1;0 jump 0 5;0 store 0 0;0 assert 0 9;1 load 0 0;1 jump 0 3;1 unlock 1;2 set 1 9;2 store 0 1;2 lock 1",
		"0 lock 1;1 lock 1;2 lock 1",
		"0 lock 0;1 unlock 0;2 unlock 0;2 lock 0;2 unlock 0",
		"2 set 0 1",
		"",
	}
	var all []impl.Program
	for _, text := range texts {
		p, code := impl.ReadProgram(strings.Split(text, ";"))
		if code != 0 {
			t.Fatalf("%q is no program: %d", text, code)
		}
		all = append(all, p)
	}
	return all
}

// All that all threads lead to, from the beginning on, state by state.
func TestMachineRunsInAllOrders(t *testing.T) {
	met := map[string]int{}
	for i, p := range stillPrograms(t) {
		seen := map[string]bool{newKey: true}
		queue := []string{newKey}
		for len(queue) > 0 {
			key := queue[0]
			queue = queue[1:]
			if len(plainEnabled(p, key)) == 0 {
				met[fmt.Sprint(i, plainStuck(p, key))]++
			}
			for _, next := range wantState(t, p, key) {
				if !seen[next] {
					seen[next] = true
					queue = append(queue, next)
				}
			}
		}
	}
	// so that these programs really meet what they are for
	for _, want := range []string{"0 true", "0 false", "1 true", "4 true", "5 false", "7 false"} {
		if met[want] == 0 {
			t.Errorf("no state of %q was met: %v", want, met)
		}
	}
}

// Longer programs, one order each that goes by a plain rule.
func TestMachineRunsOfManyPrograms(t *testing.T) {
	for i, p := range rightPrograms() {
		key := newKey
		for turn := range 40 {
			wantState(t, p, key)
			next, _, code := plainStep(p, key, (i+turn*turn)%3)
			if code == 0 {
				key = next
			}
		}
	}
}

// A state belongs to any program: behind a code's end a thread is done.
func TestMachineTakesStatesOfOtherPrograms(t *testing.T) {
	programs := stillPrograms(t)
	for i := range 7 {
		for _, key := range statesOf(i)[:40] {
			for _, p := range programs {
				wantState(t, p, key)
			}
		}
	}
	empty := programs[len(programs)-1]
	if stuck, code := impl.IsStuck(empty, vmOfKey(greatestOfKey)); stuck || code != 0 {
		t.Error(stuck, code)
	}
}

// wrongVms are wrong in one thing each.
func wrongVms() []impl.Vm {
	zero := impl.Vm{}
	all := []impl.Vm{zero, {Pcs: []int{}, Vars: []int{}, Held: []int{}, Regs: []int{}}}
	for i := range greatestOfKey {
		top := int(greatestOfKey[i] - '0')
		for _, n := range []int{math.MinInt, -1 << 32, -10, -1, top + 1, 10, 48, 256, 1 << 32, math.MaxInt} {
			for _, key := range []string{newKey, greatestOfKey} {
				s := vmOfKey(key)
				*placesOf(&s)[i] = n
				all = append(all, s)
			}
		}
	}
	for part := range 4 {
		for _, size := range []int{-15, -1, 1, 2, impl.MaxList + 1} {
			s := impl.NewVm()
			list := listsOf(&s)[part]
			*list = make([]int, max(len(*list)+size, 0))
			all = append(all, s)
		}
	}
	// right numbers, in the lists of others
	s := impl.NewVm()
	all = append(all,
		impl.Vm{Pcs: s.Vars, Vars: s.Pcs, Held: s.Held, Regs: s.Regs},
		impl.Vm{Pcs: s.Pcs, Vars: s.Regs, Held: s.Held, Regs: s.Vars},
		impl.Vm{Pcs: s.Held, Vars: s.Vars, Held: s.Pcs, Regs: s.Regs})
	return all
}

func listsOf(s *impl.Vm) []*[]int {
	return []*[]int{&s.Pcs, &s.Vars, &s.Held, &s.Regs}
}

func placesOf(s *impl.Vm) []*int {
	var all []*int
	for _, list := range listsOf(s) {
		for i := range *list {
			all = append(all, &(*list)[i])
		}
	}
	return all
}

// wantBad asks for ErrBad of all calls, whatever the thread.
func wantBad(t *testing.T, name string, p impl.Program, s impl.Vm) {
	t.Helper()
	if impl.VmOK(p, s) {
		t.Errorf("%s: VmOK is true", name)
	}
	if list, code := impl.EnabledOf(p, s); len(list) != 0 || code != impl.ErrBad {
		t.Errorf("%s: EnabledOf = %v, %d", name, list, code)
	}
	if stuck, code := impl.IsStuck(p, s); stuck || code != impl.ErrBad {
		t.Errorf("%s: IsStuck = %v, %d", name, stuck, code)
	}
	for _, k := range []int{0, 1, 2, -1, 3, math.MinInt, math.MaxInt} {
		if done, code := impl.IsDone(p, s, k); done || code != impl.ErrBad {
			t.Errorf("%s: IsDone of %d = %v, %d", name, k, done, code)
		}
		if x, found, code := impl.StepVm(p, s, k); !isZeroVm(x) || found != 0 || code != impl.ErrBad {
			t.Errorf("%s: StepVm of %d = %v, %d, %d", name, k, x, found, code)
		}
	}
}

func TestMachineRefusesWrongStates(t *testing.T) {
	p := stillPrograms(t)[0]
	for i, s := range wrongVms() {
		wantBad(t, fmt.Sprint("state ", i), p, s)
		if key, code := impl.KeyOf(s); key != "" || code != impl.ErrBad {
			t.Errorf("KeyOf of wrong state %d = %q, %d", i, key, code)
		}
		if impl.SameVm(s, s) || impl.SameVm(s, impl.NewVm()) || impl.SameVm(impl.NewVm(), s) {
			t.Errorf("SameVm of wrong state %d is true", i)
		}
	}
}

func TestMachineRefusesWrongPrograms(t *testing.T) {
	for i, p := range wrongPrograms() {
		for _, key := range []string{newKey, "500000000000000", greatestOfKey} {
			wantBad(t, fmt.Sprint("program ", i), p, vmOfKey(key))
		}
		wantBad(t, fmt.Sprint("program and state ", i), p, impl.Vm{})
	}
}

func TestMachineRefusesOtherThreads(t *testing.T) {
	for _, p := range stillPrograms(t) {
		for _, key := range []string{newKey, greatestOfKey, "000" + "0000" + "12" + "000000"} {
			for _, k := range []int{math.MinInt, -1 << 32, -3, -1, 3, 4, 6, 1 << 32, math.MaxInt} {
				if done, code := impl.IsDone(p, vmOfKey(key), k); done || code != impl.ErrRange {
					t.Errorf("IsDone of %d = %v, %d", k, done, code)
				}
				if x, found, code := impl.StepVm(p, vmOfKey(key), k); !isZeroVm(x) || found != 0 || code != impl.ErrRange {
					t.Errorf("StepVm of %d = %v, %d, %d", k, x, found, code)
				}
			}
		}
	}
}

// rightKeys has each digit at each byte, and mixed ones.
func rightKeys() []string {
	all := []string{newKey, greatestOfKey, "123456712654321"}
	for i := range greatestOfKey {
		for d := byte('0'); d <= greatestOfKey[i]; d++ {
			for _, key := range []string{newKey, greatestOfKey} {
				all = append(all, key[:i]+string(rune(d))+key[i+1:])
			}
		}
	}
	for pc := range 7 {
		all = append(all, statesOf(pc)...)
	}
	return all
}

func TestStatesAreReadBackFromTheirKeys(t *testing.T) {
	p := stillPrograms(t)[0]
	for _, want := range rightKeys() {
		s := vmOfKey(want)
		key, code := impl.KeyOf(s)
		if key != want || code != 0 || !impl.VmOK(p, s) {
			t.Errorf("KeyOf(%v) = %q, %d, not %q", s, key, code, want)
		}
		back, code := impl.VmOf(want)
		if code != 0 || len(back.Pcs) != 3 || len(back.Vars) != 4 || len(back.Held) != 2 || !slices.Equal(numbersOfVm(back), numbersOfVm(s)) || !impl.SameVm(back, s) {
			t.Errorf("VmOf(%q) = %v, %d", want, back, code)
		}
	}
}

func wantNoKey(t *testing.T, key string, want int) {
	t.Helper()
	if s, code := impl.VmOf(key); !isZeroVm(s) || code != want {
		t.Errorf("VmOf(%.40q) of %d bytes = %v, %d, not %d", key, len(key), s, code, want)
	}
}

// Every byte at every place of a key.
func TestKeysOfBentTexts(t *testing.T) {
	for _, key := range []string{newKey, greatestOfKey, "123456712654321"} {
		for i := range len(key) {
			for n := range 256 {
				bent := key[:i] + string([]byte{byte(n)}) + key[i+1:]
				if '0' <= n && n <= int(greatestOfKey[i]) {
					if s, code := impl.VmOf(bent); code != 0 || keyOfVm(s) != bent {
						t.Errorf("VmOf(%q) = %v, %d", bent, s, code)
					}
				} else {
					wantNoKey(t, bent, impl.ErrForm)
				}
			}
			wantNoKey(t, key[:i], impl.ErrForm)
			wantNoKey(t, key[i+1:], impl.ErrForm)
			wantNoKey(t, key[:i]+"0"+key[i:], impl.ErrForm)
			wantNoKey(t, key[:i]+"-1"+key[min(i+2, 15):], impl.ErrForm)
			wantNoKey(t, key[:i]+"\u0661"+key[i+1:], impl.ErrForm)
			wantNoKey(t, key[:i]+"\u0661"+key[min(i+2, 15):], impl.ErrForm)
			wantNoKey(t, key[:i]+"\uff11"+key[min(i+3, 15):], impl.ErrForm)
		}
		for _, wrong := range []string{" " + key, key + " ", key + "\n", key + "\x00", key + key, "x", " ", strings.Repeat(" ", 15)} {
			wantNoKey(t, wrong, impl.ErrForm)
		}
	}
}

func TestKeysOfOtherLengths(t *testing.T) {
	for n := range 60 {
		if n != 15 {
			wantNoKey(t, strings.Repeat("0", n), impl.ErrForm)
		}
	}
	for _, fill := range []string{"0", "x", "\xff"} {
		wantNoKey(t, strings.Repeat(fill, impl.MaxText), impl.ErrForm)
		wantNoKey(t, strings.Repeat(fill, impl.MaxText+1), impl.ErrLong)
	}
}

func TestStatesThatAreAlike(t *testing.T) {
	keys := rightKeys()
	for i, key := range keys {
		for _, other := range []string{key, keys[(i*7+1)%len(keys)], newKey, greatestOfKey} {
			if impl.SameVm(vmOfKey(key), vmOfKey(other)) != (key == other) {
				t.Errorf("SameVm of %s and %s is not %v", key, other, key == other)
			}
		}
	}
	// one number apart, wherever it is
	for i := range greatestOfKey {
		a, b := vmOfKey("111111111111111"), vmOfKey("111111111111111")
		*placesOf(&b)[i] = 2
		if impl.SameVm(a, b) || impl.SameVm(b, a) {
			t.Errorf("SameVm of %v and %v", a, b)
		}
	}
}
