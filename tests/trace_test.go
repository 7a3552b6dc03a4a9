package tests

import (
	"fmt"
	"math"
	"slices"
	"strings"
	"testing"

	"loop.example/g00632/impl"
)

// programOf is a program from its lines, with semicolons between them.
func programOf(t *testing.T, lines string) impl.Program {
	t.Helper()
	p, code := impl.ReadProgram(strings.Split(lines, ";"))
	if code != 0 {
		t.Fatalf("%q is no program: %d", lines, code)
	}
	return p
}

// plainEvent goes by an instruction's text.
func plainEvent(p impl.Program, key string, k int) impl.Event {
	pc := int(key[k] - '0')
	x := p.Code[k][pc]
	words := strings.Split(instrTexts[x], " ")
	obj := -1
	switch words[0] {
	case "load":
		obj = int(words[2][0] - '0')
	case "store":
		obj = int(words[1][0] - '0')
	case "lock", "unlock":
		obj = int(words[1][0]-'0') + 4
	}
	op := 1 + slices.Index([]string{"load", "store", "set", "add", "lock", "unlock", "jump", "assert"}, words[0])
	return impl.Event{Thread: k, Pc: pc, Op: op, Obj: obj}
}

func plainEvents(p impl.Program, list []int) ([]impl.Event, int) {
	if _, _, code := plainRun(p, list); code != 0 {
		return nil, code
	}
	var events []impl.Event
	key := newKey
	for _, k := range list {
		events = append(events, plainEvent(p, key, k))
		key, _, _ = plainStep(p, key, k)
	}
	return events, 0
}

// plainDepends has a row of each way in which two events of two threads may meet.
func plainDepends(a, b impl.Event) bool {
	switch {
	case a.Thread == b.Thread:
		return true
	case a.Obj != b.Obj, a.Obj < 0:
		return false
	}
	return a.Op != 1 || b.Op != 1
}

// plainOrder asks of each pair whether a way of earlier ones that depend leads
// from the one to the other, as long as any is found.
func plainOrder(events []impl.Event) []bool {
	n := len(events)
	order := make([]bool, n*n)
	for i := range n {
		for j := i + 1; j < n; j++ {
			order[i*n+j] = plainDepends(events[i], events[j])
		}
	}
	for again := true; again; {
		again = false
		for i := range n {
			for j := range n {
				for k := range n {
					if order[i*n+k] && order[k*n+j] && !order[i*n+j] {
						order[i*n+j], again = true, true
					}
				}
			}
		}
	}
	return order
}

func plainRaces(events []impl.Event) int {
	n := len(events)
	order := plainOrder(events)
	races := 0
	for i := range n {
		for j := i + 1; j < n; j++ {
			if events[i].Thread == events[j].Thread || !plainDepends(events[i], events[j]) {
				continue
			}
			between := false
			for k := range n {
				between = between || order[i*n+k] && order[k*n+j]
			}
			if !between {
				races++
			}
		}
	}
	return races
}

// plainNormal strikes out, again and again, the least thread's event that no
// other one is ahead of.
func plainNormal(events []impl.Event) []int {
	n := len(events)
	order := plainOrder(events)
	gone := make([]bool, n)
	var normal []int
	for range n {
		best := -1
		for j := range n {
			free := !gone[j]
			for i := range n {
				free = free && (gone[i] || !order[i*n+j])
			}
			if free && (best < 0 || events[j].Thread < events[best].Thread) {
				best = j
			}
		}
		gone[best] = true
		normal = append(normal, events[best].Thread)
	}
	return normal
}

// wantTrace holds the calls of a schedule against the plain ones.
func wantTrace(t *testing.T, p impl.Program, list []int) []impl.Event {
	t.Helper()
	want, wantCode := plainEvents(p, list)
	if events, code := impl.EventsOf(p, list); !slices.Equal(events, want) || code != wantCode {
		t.Errorf("EventsOf(%v, %v) = %v, %d, not %v, %d", p, list, events, code, want, wantCode)
	}
	if order, code := impl.OrderOf(p, list); !slices.Equal(order, plainOrder(want)) || code != wantCode {
		t.Errorf("OrderOf(%v, %v) = %v, %d, not %v, %d", p, list, order, code, plainOrder(want), wantCode)
	}
	if n, code := impl.RacesOf(p, list); n != plainRaces(want) || code != wantCode {
		t.Errorf("RacesOf(%v, %v) = %d, %d, not %d, %d", p, list, n, code, plainRaces(want), wantCode)
	}
	if normal, code := impl.NormalOf(p, list); !slices.Equal(normal, plainNormal(want)) || code != wantCode {
		t.Errorf("NormalOf(%v, %v) = %v, %d, not %v, %d", p, list, normal, code, plainNormal(want), wantCode)
	}
	if same, code := impl.SameClass(p, list, list); same != (wantCode == 0) || code != wantCode {
		t.Errorf("SameClass(%v, %v, itself) = %v, %d", p, list, same, code)
	}
	return want
}

func TestDependsOfAllPairs(t *testing.T) {
	var events []impl.Event
	for k := range 3 {
		for op := 1; op <= 8; op++ {
			for obj := -1; obj <= 5; obj++ {
				events = append(events, impl.Event{Thread: k, Pc: (k + op + obj + 6) % 6, Op: op, Obj: obj})
			}
		}
	}
	for _, a := range events {
		for _, b := range events {
			if impl.Depends(a, b) != plainDepends(a, b) {
				t.Errorf("Depends(%v, %v) = %v", a, b, impl.Depends(a, b))
			}
		}
	}
}

func TestDependsByHand(t *testing.T) {
	for _, row := range []struct {
		a, b impl.Event
		want bool
	}{
		{impl.Event{}, impl.Event{}, true},
		{impl.Event{Thread: 0, Op: 3, Obj: -1}, impl.Event{Thread: 0, Op: 3, Obj: -1, Pc: 1}, true},
		{impl.Event{Thread: 1, Op: 1, Obj: 0}, impl.Event{Thread: 1, Op: 1, Obj: 3}, true},
		{impl.Event{Thread: 0, Op: 3, Obj: -1}, impl.Event{Thread: 1, Op: 3, Obj: -1}, false},
		{impl.Event{Thread: 0, Op: 3, Obj: -2}, impl.Event{Thread: 1, Op: 3, Obj: -2}, false},
		{impl.Event{Thread: 0, Op: 2, Obj: math.MinInt}, impl.Event{Thread: 1, Op: 2, Obj: math.MinInt}, false},
		{impl.Event{Thread: 0, Op: 1, Obj: 0}, impl.Event{Thread: 1, Op: 1, Obj: 0}, false},
		{impl.Event{Thread: 0, Op: 1, Obj: 0}, impl.Event{Thread: 1, Op: 2, Obj: 0}, true},
		{impl.Event{Thread: 0, Op: 2, Obj: 0}, impl.Event{Thread: 1, Op: 2, Obj: 0}, true},
		{impl.Event{Thread: 0, Op: 2, Obj: 0}, impl.Event{Thread: 1, Op: 2, Obj: 1}, false},
		{impl.Event{Thread: 0, Op: 5, Obj: 4}, impl.Event{Thread: 2, Op: 6, Obj: 4}, true},
		{impl.Event{Thread: 0, Op: 6, Obj: 5}, impl.Event{Thread: 2, Op: 6, Obj: 5}, true},
		{impl.Event{Thread: 0, Op: 5, Obj: 4}, impl.Event{Thread: 2, Op: 5, Obj: 5}, false},
		{impl.Event{Thread: 0, Op: 2, Obj: 3}, impl.Event{Thread: 2, Op: 5, Obj: 4}, false},
		// what no schedule has: numbers go by the same rule
		{impl.Event{Thread: -7, Op: 1, Obj: 0}, impl.Event{Thread: -7, Op: 1, Obj: 0}, true},
		{impl.Event{Thread: math.MaxInt, Op: 9, Obj: 70}, impl.Event{Thread: math.MinInt, Op: -1, Obj: 70}, true},
		{impl.Event{Thread: math.MaxInt, Op: 1, Obj: math.MaxInt}, impl.Event{Thread: math.MinInt, Op: 1, Obj: math.MaxInt}, false},
		{impl.Event{Thread: 5, Op: 1, Obj: 9}, impl.Event{Thread: 6, Op: 0, Obj: 9}, true},
	} {
		if impl.Depends(row.a, row.b) != row.want || impl.Depends(row.b, row.a) != row.want {
			t.Errorf("Depends of %v and %v is not %v", row.a, row.b, row.want)
		}
	}
}

// Each of the 92 instructions, in each thread, at the first place that can hold it.
func TestEventsOfEveryInstruction(t *testing.T) {
	for x, text := range instrTexts {
		for k := range 3 {
			p := impl.Program{Code: make([][]impl.Instr, 3)}
			p.Code[k] = setting(6)
			at := k
			if x.Op == impl.OpJump {
				at = x.B - 1
			}
			p.Code[k][at] = x
			list := slices.Repeat([]int{k}, at+1)
			events := wantTrace(t, p, list)
			word := strings.Split(text, " ")[0]
			want := impl.Event{Thread: k, Pc: at, Op: x.Op, Obj: map[string]int{"load": x.B, "store": x.A, "lock": 4 + x.A, "unlock": 4 + x.A, "set": -1, "add": -1, "jump": -1, "assert": -1}[word]}
			if len(events) != at+1 || events[at] != want {
				t.Errorf("the event of %q is %v, not %v", text, events[at], want)
			}
		}
	}
}

type handTrace struct {
	lines  string
	list   []int
	ahead  [][2]int // besides those of one thread
	races  int
	normal []int
}

func handTraces() []handTrace {
	return []handTrace{
		{"", nil, nil, 0, nil},
		{"2 store 0 0", nil, nil, 0, nil},
		{"2 store 0 0", []int{2}, nil, 0, []int{2}},
		{"1 store 0 0;1 load 0 0;1 lock 0;1 unlock 0", []int{1, 1, 1, 1}, nil, 0, []int{1, 1, 1, 1}},
		{"0 set 0 1;1 add 0 1;2 assert 0 0;2 jump 0 2", []int{2, 1, 2, 0}, nil, 0, []int{0, 1, 2, 2}},
		// one place: two stores, a store and a load, two loads; and two places
		{"0 store 3 0;1 store 3 0", []int{1, 0}, [][2]int{{0, 1}}, 1, []int{1, 0}},
		{"0 store 3 0;1 store 3 0", []int{0, 1}, [][2]int{{0, 1}}, 1, []int{0, 1}},
		{"0 load 0 3;1 store 3 0", []int{1, 0}, [][2]int{{0, 1}}, 1, []int{1, 0}},
		{"0 load 0 3;1 load 1 3", []int{1, 0}, nil, 0, []int{0, 1}},
		{"0 store 2 0;1 store 3 0", []int{1, 0}, nil, 0, []int{0, 1}},
		{"0 store 0 0;1 lock 0", []int{1, 0}, nil, 0, []int{0, 1}},
		// a lock and its unlock by two threads: each lock behind the unlock ahead of it
		{"0 lock 0;0 unlock 0;1 lock 0;1 unlock 0", []int{1, 1, 0, 0}, [][2]int{{0, 2}, {0, 3}, {1, 2}, {1, 3}}, 1, []int{1, 1, 0, 0}},
		{"0 lock 0;0 unlock 0;1 lock 1;1 unlock 1", []int{1, 1, 0, 0}, nil, 0, []int{0, 0, 1, 1}},
		{"0 lock 1;1 unlock 1;2 unlock 1", []int{0, 2, 1}, [][2]int{{0, 1}, {0, 2}, {1, 2}}, 2, []int{0, 2, 1}},
		// behind a bug it goes on: a fault touches its lock, an assertion nothing
		{"0 unlock 0;0 store 0 0;1 lock 0;1 load 0 0", []int{1, 0, 0, 1}, [][2]int{{0, 1}, {0, 2}, {1, 3}, {2, 3}}, 2, []int{1, 0, 0, 1}},
		{"0 assert 0 1;0 store 0 0;1 assert 0 1;1 load 0 0", []int{1, 1, 0, 0}, [][2]int{{0, 3}, {1, 3}}, 1, []int{0, 1, 1, 0}},
		// between the first and the last store one that orders both; behind a load no store
		{"0 store 0 0;1 store 0 0;2 store 0 0", []int{2, 1, 0}, [][2]int{{0, 1}, {0, 2}, {1, 2}}, 2, []int{2, 1, 0}},
		{"0 store 0 0;1 load 0 0;2 store 0 0", []int{2, 1, 0}, [][2]int{{0, 1}, {0, 2}, {1, 2}}, 2, []int{2, 1, 0}},
		{"0 store 0 0;1 load 0 0;2 load 0 0", []int{2, 1, 0}, [][2]int{{0, 2}, {1, 2}}, 2, []int{1, 2, 0}},
		{"0 store 0 0;1 set 0 1;2 store 0 0", []int{2, 1, 0}, [][2]int{{0, 2}}, 1, []int{1, 2, 0}},
		// ordered by another place, or by a third thread, alone
		{"0 store 0 0;0 store 1 0;1 load 0 1;1 store 0 0", []int{0, 0, 1, 1}, [][2]int{{0, 2}, {0, 3}, {1, 2}, {1, 3}}, 1, []int{0, 0, 1, 1}},
		{"0 store 0 0;0 store 1 0;1 store 0 0;2 load 0 1;2 store 2 0;1 load 1 2", []int{0, 0, 2, 2, 1, 1}, [][2]int{{0, 2}, {0, 3}, {0, 4}, {0, 5}, {1, 2}, {1, 3}, {1, 5}, {2, 5}, {3, 5}}, 3, []int{0, 0, 1, 2, 2, 1}},
		{"0 load 0 0;1 store 0 0;1 store 1 0;2 load 0 1", []int{0, 1, 1, 2}, [][2]int{{0, 1}, {0, 2}, {0, 3}, {1, 3}, {2, 3}}, 2, []int{0, 1, 1, 2}},
	}
}

func TestTracesByHand(t *testing.T) {
	for _, row := range handTraces() {
		p := programOf(t, row.lines)
		events := wantTrace(t, p, row.list)
		n := len(row.list)
		want := make([]bool, n*n)
		for i := range n {
			for j := i + 1; j < n; j++ {
				want[i*n+j] = events[i].Thread == events[j].Thread || slices.Contains(row.ahead, [2]int{i, j})
			}
		}
		if order, code := impl.OrderOf(p, row.list); !slices.Equal(order, want) || code != 0 {
			t.Errorf("OrderOf(%q, %v) = %v, %d, not %v", row.lines, row.list, order, code, want)
		}
		if races, code := impl.RacesOf(p, row.list); races != row.races || code != 0 {
			t.Errorf("RacesOf(%q, %v) = %d, %d, not %d", row.lines, row.list, races, code, row.races)
		}
		if normal, code := impl.NormalOf(p, row.list); !slices.Equal(normal, row.normal) || code != 0 {
			t.Errorf("NormalOf(%q, %v) = %v, %d, not %v", row.lines, row.list, normal, code, row.normal)
		}
	}
}

func TestTracesOfManyPrograms(t *testing.T) {
	for i, p := range append(rightPrograms(), closePrograms()...) {
		for seed := range 3 {
			list := turns(p, i+seed)
			wantTrace(t, p, list)
			wantTrace(t, p, list[:len(list)/2])
			for _, more := range []int{0, 1, 2, 3, -1} { // nobody can go on, so that each has a code
				wantTrace(t, p, append(slices.Clone(list), more, 0))
			}
			wantTrace(t, p, mixedSchedule((i+seed)%20, i*5+seed))
		}
	}
}

// wantSameRun asks that two schedules can be run, and come to the same.
func wantSameRun(t *testing.T, p impl.Program, a, b []int) {
	t.Helper()
	s, bugs, code := impl.RunSchedule(p, a)
	other, otherBugs, otherCode := impl.RunSchedule(p, b)
	if code != 0 || otherCode != 0 || !impl.SameVm(s, other) || !slices.Equal(bugs, otherBugs) {
		t.Errorf("%v: %v comes to %v, %v, %d, and %v to %v, %v, %d", p, a, s, bugs, code, b, other, otherBugs, otherCode)
	}
}

func wantSameClass(t *testing.T, p impl.Program, a, b []int, want bool) {
	t.Helper()
	for _, pair := range [][2][]int{{a, b}, {b, a}} {
		if same, code := impl.SameClass(p, pair[0], pair[1]); same != want || code != 0 {
			t.Errorf("SameClass(%v, %v, %v) = %v, %d", p, pair[0], pair[1], same, code)
		}
	}
}

// The theorem of commuting, and that a normal form comes to the same.
func TestNeighboursMayChangePlaces(t *testing.T) {
	met := map[string]int{}
	for i, p := range append(rightPrograms(), closePrograms()...) {
		for seed := range 3 {
			list := turns(p, i+seed)
			events, _ := impl.EventsOf(p, list)
			for at := range max(len(list)-1, 0) {
				swapped := slices.Clone(list)
				swapped[at], swapped[at+1] = list[at+1], list[at]
				if list[at] == list[at+1] {
					continue
				}
				_, _, code := impl.RunSchedule(p, swapped)
				switch {
				case !impl.Depends(events[at], events[at+1]):
					met["free"]++
					wantSameRun(t, p, list, swapped)
					wantSameClass(t, p, list, swapped, true)
				case code == 0:
					met["bound"]++
					wantSameClass(t, p, list, swapped, false)
				default:
					met["halted"]++
				}
			}
			normal, code := impl.NormalOf(p, list)
			if code != 0 || slices.Compare(normal, list) > 0 {
				t.Errorf("NormalOf(%v, %v) = %v, %d", p, list, normal, code)
			}
			if !slices.Equal(normal, list) {
				met["other"]++
			}
			wantSameRun(t, p, list, normal)
			wantSameClass(t, p, list, normal, true)
			if again, code := impl.NormalOf(p, normal); !slices.Equal(again, normal) || code != 0 {
				t.Errorf("NormalOf(%v, %v) = %v, %d", p, normal, again, code)
			}
		}
	}
	for _, kind := range []string{"free", "bound", "halted", "other"} {
		if met[kind] < 15 {
			t.Errorf("hardly any %s: %v", kind, met)
		}
	}
}

// schedulesOf are all that run, of at most n steps.
func schedulesOf(p impl.Program, n int) [][]int {
	lists := [][]int{nil}
	for at := 0; at < len(lists); at++ {
		list := lists[at]
		if len(list) == n {
			break
		}
		for k := range 3 {
			next := append(slices.Clone(list), k)
			if _, _, code := plainRun(p, next); code == 0 {
				lists = append(lists, next)
			}
		}
	}
	return lists
}

// classOf has all that neighbours that change places lead to, step by step.
func classOf(p impl.Program, list []int) [][]int {
	class := [][]int{list}
	seen := map[string]bool{fmt.Sprint(list): true}
	for at := 0; at < len(class); at++ {
		events, _ := plainEvents(p, class[at])
		for i := range max(len(events)-1, 0) {
			next := slices.Clone(class[at])
			next[i], next[i+1] = next[i+1], next[i]
			if text := fmt.Sprint(next); !plainDepends(events[i], events[i+1]) && !seen[text] {
				seen[text] = true
				class = append(class, next)
			}
		}
	}
	return class
}

// Of all short schedules: those are of one class that changes of places lead to,
// the normal form is the least of them, and what must be ahead is ahead in all.
func TestClassesByChangesOfPlaces(t *testing.T) {
	programs := append(stillPrograms(t), programOf(t, "0 store 0 0;0 load 0 1;1 load 0 0;1 store 1 0;2 load 1 0;2 load 1 1"), closePrograms()[5], closePrograms()[101])
	for _, p := range programs {
		lists := schedulesOf(p, 6)
		for i, list := range lists {
			class := classOf(p, list)
			least := slices.MinFunc(class, slices.Compare[[]int])
			if normal, code := impl.NormalOf(p, list); !slices.Equal(normal, least) || code != 0 {
				t.Errorf("NormalOf(%v, %v) = %v, %d, not %v", p, list, normal, code, least)
			}
			for _, other := range class {
				wantSameClass(t, p, list, other, true)
				wantSameRun(t, p, list, other)
			}
			for j := range 25 {
				other := lists[(i*7+j*j*3)%len(lists)]
				in := slices.ContainsFunc(class, func(x []int) bool { return slices.Equal(x, other) })
				wantSameClass(t, p, list, other, in)
			}
			wantOrderOfClass(t, p, list, class)
		}
	}
}

// placesIn tells where the events of a schedule stand in another one of its
// class: the n-th of a thread is the n-th of it there, too.
func placesIn(list, other []int) []int {
	var places []int
	var count [3]int
	for _, k := range list {
		left := count[k]
		for at, x := range other {
			if x == k && left == 0 {
				places = append(places, at)
				break
			} else if x == k {
				left--
			}
		}
		count[k]++
	}
	return places
}

func wantOrderOfClass(t *testing.T, p impl.Program, list []int, class [][]int) {
	t.Helper()
	n := len(list)
	want := make([]bool, n*n)
	for i := range n * n {
		want[i] = i/n != i%n
	}
	for _, other := range class {
		places := placesIn(list, other)
		for i := range n * n {
			want[i] = want[i] && places[i/n] < places[i%n]
		}
	}
	if order, code := impl.OrderOf(p, list); !slices.Equal(order, want) || code != 0 {
		t.Errorf("OrderOf(%v, %v) = %v, %d, not %v", p, list, order, code, want)
	}
}

func TestClassesByHand(t *testing.T) {
	p := programOf(t, "0 load 0 0;0 store 1 0;1 load 0 0;1 store 2 0;2 store 0 0")
	for _, row := range []struct {
		a, b []int
		want bool
	}{
		{nil, nil, true}, {nil, []int{}, true}, {nil, []int{0}, false}, {[]int{0}, []int{0}, true}, {[]int{0}, []int{1}, false},
		{[]int{0, 1}, []int{1, 0}, true}, {[]int{0, 2}, []int{2, 0}, false}, {[]int{0, 1, 2}, []int{1, 0, 2}, true}, {[]int{0, 1, 2}, []int{0, 2, 1}, false},
		{[]int{0, 0, 1, 1, 2}, []int{0, 1, 2, 0, 1}, true}, {[]int{0, 0, 1, 1, 2}, []int{1, 0, 2, 1, 0}, true}, {[]int{0, 0, 1, 1, 2}, []int{0, 0, 2, 1, 1}, false},
		{[]int{0, 0, 1, 1, 2}, []int{0, 0, 1, 1}, false}, {[]int{0, 0}, []int{0, 0, 1}, false}, {[]int{0, 0, 1}, []int{0, 1, 1}, false},
	} {
		wantSameClass(t, p, row.a, row.b, row.want)
	}
}

// wantTraceCode asks for a code of all calls of a schedule, and nothing else.
func wantTraceCode(t *testing.T, p impl.Program, list []int, want int) {
	t.Helper()
	if events, code := impl.EventsOf(p, list); len(events) != 0 || code != want {
		t.Errorf("EventsOf = %v, %d, not %d", events, code, want)
	}
	if order, code := impl.OrderOf(p, list); len(order) != 0 || code != want {
		t.Errorf("OrderOf = %v, %d, not %d", order, code, want)
	}
	if n, code := impl.RacesOf(p, list); n != 0 || code != want {
		t.Errorf("RacesOf = %d, %d, not %d", n, code, want)
	}
	if normal, code := impl.NormalOf(p, list); len(normal) != 0 || code != want {
		t.Errorf("NormalOf = %v, %d, not %d", normal, code, want)
	}
	wantClassCode(t, p, list, list, want)
}

func wantClassCode(t *testing.T, p impl.Program, a, b []int, want int) {
	t.Helper()
	if same, code := impl.SameClass(p, a, b); same || code != want {
		t.Errorf("SameClass of %d and %d steps = %v, %d, not %d", len(a), len(b), same, code, want)
	}
}

func TestTracesOfWrongSchedules(t *testing.T) {
	p := programOf(t, "0 assert 0 1;0 store 0 0;1 lock 0;1 store 0 0;2 lock 0")
	right := []int{0, 1, 0}
	for _, row := range []struct {
		list []int
		code int
	}{
		{[]int{3}, impl.ErrRange}, {[]int{-1}, impl.ErrRange}, {[]int{math.MaxInt}, impl.ErrRange}, {[]int{math.MinInt, 0}, impl.ErrRange},
		{[]int{0, 1, 3}, impl.ErrRange}, {[]int{0, 1, -1, 0}, impl.ErrRange}, {[]int{0, 0, 0}, impl.ErrDone}, {[]int{0, 0, 1, 1, 1}, impl.ErrDone},
		{[]int{1, 2}, impl.ErrBlocked}, {[]int{2, 1}, impl.ErrBlocked}, {[]int{0, 0, 1, 1, 2}, impl.ErrBlocked}, {[]int{0, 2, 1, 3}, impl.ErrBlocked},
		// the first step that can't be taken
		{[]int{0, 0, 0, 3}, impl.ErrDone}, {[]int{1, 2, 1, 1}, impl.ErrBlocked}, {[]int{3, 0, 0, 0}, impl.ErrRange},
	} {
		wantTraceCode(t, p, row.list, row.code)
		wantClassCode(t, p, right, row.list, row.code)
		wantClassCode(t, p, row.list, right, row.code)
		wantClassCode(t, p, row.list, nil, row.code)
		for _, other := range []struct {
			list []int
			code int
		}{{[]int{7}, impl.ErrRange}, {[]int{0, 0, 0}, impl.ErrDone}, {[]int{1, 2}, impl.ErrBlocked}} {
			wantClassCode(t, p, row.list, other.list, row.code)
			wantClassCode(t, p, other.list, row.list, other.code)
		}
	}
	q := programOf(t, "")
	for k := range 3 {
		wantTraceCode(t, q, []int{k}, impl.ErrDone)
	}
}

func TestTracesOfWrongPrograms(t *testing.T) {
	for _, p := range wrongPrograms() {
		for _, list := range [][]int{nil, {0}, {2, 2}, {-1}, {3, 0}, counted(impl.MaxList)} {
			wantTraceCode(t, p, list, impl.ErrBad)
			wantClassCode(t, p, nil, list, impl.ErrBad)
			wantClassCode(t, p, list, nil, impl.ErrBad)
		}
	}
}

func TestTracesAtTheBoundOfLists(t *testing.T) {
	p := programOf(t, "1 assert 0 1;2 set 0 1")
	full := slices.Repeat([]int{1}, impl.MaxList)
	beyond := slices.Repeat([]int{1}, impl.MaxList+1)
	wantTraceCode(t, p, full, impl.ErrDone)
	wantTraceCode(t, p, slices.Repeat([]int{-1}, impl.MaxList), impl.ErrRange)
	for _, p := range []impl.Program{p, {}} {
		wantTraceCode(t, p, beyond, impl.ErrLong)
		wantTraceCode(t, p, slices.Repeat([]int{-1}, impl.MaxList+1), impl.ErrLong)
		for _, list := range [][]int{nil, {1}, {3}, {1, 1}, full} { // too long comes ahead of a's own codes
			wantClassCode(t, p, list, beyond, impl.ErrLong)
			wantClassCode(t, p, beyond, list, impl.ErrLong)
		}
	}
	long := programOf(t, "0 set 0 1;0 set 0 1;0 set 0 1;0 set 0 1;0 set 0 1;0 set 0 1;1 set 0 1;1 set 0 1;1 set 0 1;1 set 0 1;1 set 0 1;1 set 0 1;2 set 0 1;2 set 0 1;2 set 0 1;2 set 0 1;2 set 0 1;2 set 0 1")
	longest := slices.Repeat([]int{2, 1, 0}, 6)
	if normal, code := impl.NormalOf(long, longest); !slices.Equal(normal, slices.Concat(slices.Repeat([]int{0}, 6), slices.Repeat([]int{1}, 6), slices.Repeat([]int{2}, 6))) || code != 0 {
		t.Errorf("NormalOf of the longest schedule = %v, %d", normal, code)
	}
	wantTrace(t, long, longest)
}
