package tests

import (
	"fmt"
	"maps"
	"slices"
	"strings"
	"testing"

	"loop.example/g00632/impl"
)

// checked is what a plain check comes to.
type checked struct {
	bugs  []impl.Bug
	nodes int
	all   map[string]impl.Entry
	code  int
}

// plainCheck is a second writing, without a search into the depth: it gathers all
// nodes first, then goes through them from the greatest key to the least, as a step
// only leads to a greater one. It stops behind the first node that is too many.
func plainCheck(p impl.Program, given []impl.Entry) checked {
	all := map[string]impl.Entry{}
	for _, e := range given {
		all[e.Key] = e
	}
	nodes := map[string]bool{}
	for todo := []string{newKey}; len(todo) > 0; todo = todo[1:] {
		if _, there := all[todo[0]]; there || nodes[todo[0]] {
			continue
		}
		nodes[todo[0]] = true
		if len(given)+len(nodes) > 2000 {
			return checked{code: impl.ErrBudget}
		}
		for _, k := range plainEnabled(p, todo[0]) {
			next, _, _ := plainStep(p, todo[0], k)
			todo = append(todo, next)
		}
	}
	for _, key := range slices.Backward(slices.Sorted(maps.Keys(nodes))) {
		all[key] = plainNode(p, key, all)
	}
	return checked{bugs: all[newKey].Bugs, nodes: len(nodes), all: all}
}

// plainNode tells what a state comes to by the entries of all that it leads to.
func plainNode(p impl.Program, key string, all map[string]impl.Entry) impl.Entry {
	var found []impl.Bug
	foot := plainLooks(key)
	if plainStuck(p, key) {
		found = append(found, impl.Bug{Kind: 14})
	}
	for _, k := range plainEnabled(p, key) {
		next, kind, _ := plainStep(p, key, k)
		if kind != 0 {
			found = append(found, impl.Bug{Kind: kind, Thread: k, Pc: int(key[k] - '0')})
		}
		if plainStuck(p, next) {
			found = append(found, impl.Bug{Kind: 14})
		}
		found = append(found, all[next].Bugs...)
		foot = append(foot, all[next].Foot...)
	}
	return impl.Entry{Key: key, Bugs: plainMerge(found), Foot: plainUnion(foot)}
}

// plainComes goes from a state on by schedules' steps alone, and uses nothing again;
// with it, how many states there are, up to the first that is too many.
func plainComes(p impl.Program, key string) (impl.Entry, int) {
	var found []impl.Bug
	keys := []string{key}
	seen := map[string]bool{key: true}
	for at := 0; at < len(keys) && len(keys) <= 2000; at++ {
		if plainStuck(p, keys[at]) {
			found = append(found, impl.Bug{Kind: 14})
		}
		for k := range 3 {
			next, kind, code := plainStep(p, keys[at], k)
			if code != 0 {
				continue
			}
			if kind != 0 {
				found = append(found, impl.Bug{Kind: kind, Thread: k, Pc: int(keys[at][k] - '0')})
			}
			if !seen[next] {
				seen[next] = true
				keys = append(keys, next)
			}
		}
	}
	foot, _ := plainFoot(p, key)
	return impl.Entry{Key: key, Bugs: plainMerge(found), Foot: foot}, len(keys)
}

// brief is the beginning of what is told of lists that may be long.
func brief(x any) string {
	return fmt.Sprintf("%.300s", fmt.Sprint(x))
}

// tellsMany says that an entry has more bugs than one of a right memo.
func tellsMany(e impl.Entry) bool { return len(e.Bugs) > 30 }

// wantChecked holds an answer of a check against what it must come to. The memo is
// right unless a node of it tells many bugs.
func wantChecked(t *testing.T, name string, r impl.Result, m impl.Memo, code int, want checked) {
	t.Helper()
	if code != want.code || !slices.Equal(r.Bugs, want.bugs) || r.Nodes != want.nodes {
		t.Errorf("%s: %v, %d, not %v, %d nodes, %d", name, r, code, want.bugs, want.nodes, want.code)
	}
	if !sameEntries(m.Entries, rowsOf(want.all)) {
		t.Errorf("%s: entries %s, not %s", name, brief(m.Entries), brief(rowsOf(want.all)))
	}
	if right := impl.MemoOK(m); right == slices.ContainsFunc(m.Entries, tellsMany) {
		t.Errorf("%s: MemoOK of the memo: %v", name, right)
	}
}

// wantAgain asks for a check from entries, and tells what it must come to.
func wantAgain(t *testing.T, name string, p impl.Program, given []impl.Entry) checked {
	t.Helper()
	want := plainCheck(p, given)
	r, m, code := impl.CheckAgain(p, impl.Memo{Entries: given})
	wantChecked(t, name, r, m, code, want)
	return want
}

func wantFresh(t *testing.T, name string, p impl.Program) checked {
	t.Helper()
	want := wantAgain(t, name, p, nil)
	r, m, code := impl.CheckFresh(p)
	wantChecked(t, name, r, m, code, want)
	return want
}

func wantEntryTrue(t *testing.T, name string, p impl.Program, e impl.Entry, want bool) {
	t.Helper()
	if yes, code := impl.EntryTrue(p, e); yes != want || code != 0 {
		t.Errorf("%s: EntryTrue(%v) = %v, %d, not %v", name, e, yes, code, want)
	}
	wantMemoTrue(t, name, p, []impl.Entry{e}, want)
}

func wantMemoTrue(t *testing.T, name string, p impl.Program, list []impl.Entry, want bool) {
	t.Helper()
	if yes, code := impl.MemoTrue(p, impl.Memo{Entries: list}); yes != want || code != 0 {
		t.Errorf("%s: MemoTrue(.. of %d) = %v, %d, not %v", name, len(list), yes, code, want)
	}
}

// The theorem of checking: a check from nothing finds just all bugs of all
// schedules, by a node of each state.
func TestChecksFromNothing(t *testing.T) {
	count := map[string]int{}
	for i, p := range slices.Concat(stillPrograms(t), closePrograms(), racingPrograms(), rightPrograms()[:250]) {
		name := fmt.Sprint("program ", i)
		want := wantFresh(t, name, p)
		if want.code != 0 {
			count["beyond"]++
			continue
		}
		all := plainSpace(p)
		if !slices.Equal(want.bugs, bugsOf(plainFinds(p, all))) || want.nodes != len(all) || len(want.all) != len(all) {
			t.Errorf("%s: %v, %d nodes, and %d states with %v", name, want.bugs, want.nodes, len(all), bugsOf(plainFinds(p, all)))
		}
		for j := 0; j < len(all); j += 1 + len(all)/5 {
			if e, _ := plainComes(p, all[j].key); !sameEntry(e, want.all[e.Key]) {
				t.Errorf("%s: %s comes to %v, not %v", name, e.Key, e, want.all[e.Key])
			}
		}
		bugs, _ := impl.AllBugs(p)
		keys, _ := impl.AllStates(p)
		if !slices.Equal(bugs, want.bugs) || len(keys) != want.nodes {
			t.Errorf("%s: AllBugs %v, %d of AllStates", name, bugs, len(keys))
		}
		for _, b := range bugs {
			count[impl.CodeWord(b.Kind)]++
		}
		switch {
		case len(bugs) == 0:
			count["none"]++
		case len(bugs) > 2:
			count["several"]++
		}
	}
	for _, kind := range []string{"beyond", "none", "several", "assert", "fault", "deadlock"} {
		if count[kind] < 5 {
			t.Errorf("hardly any %s: %v", kind, count)
		}
	}
}

func TestChecksByAllSchedules(t *testing.T) {
	asked := 0
	for i, p := range append(stillPrograms(t), append(closePrograms(), waysOfTwoLengths(t))...) {
		if plainRuns(p, newKey, map[string]int{}) >= 150 {
			continue
		}
		asked++
		keys, finds, _ := scheduledAll(p)
		r, m, code := impl.CheckFresh(p)
		if code != 0 || !slices.Equal(r.Bugs, bugsOf(finds)) || r.Nodes != len(keys) || len(m.Entries) != len(keys) {
			t.Errorf("program %d: %v, %d, and schedules find %v", i, r, code, bugsOf(finds))
		}
		for _, key := range keys {
			if e, code := impl.FindEntry(m, key); code != 0 || e.Key != key {
				t.Errorf("program %d: there is no entry of %s: %d", i, key, code)
			}
		}
	}
	if asked < 30 {
		t.Error("hardly any programs:", asked)
	}
}

// handEntry reads a key, bugs and items, with a stroke between the three.
func handEntry(t *testing.T, text string) impl.Entry {
	t.Helper()
	parts := strings.Split(text, "|")
	e := impl.Entry{Key: parts[0]}
	for _, word := range strings.Split(parts[1], ",") {
		if word == "" {
			continue
		}
		b, code := impl.ReadBug(word)
		if code != 0 {
			t.Fatalf("%q is no bug", word)
		}
		e.Bugs = append(e.Bugs, b)
	}
	for _, word := range strings.Fields(parts[2]) {
		var item int
		fmt.Sscan(word, &item)
		e.Foot = append(e.Foot, item)
	}
	return e
}

func handEntries(t *testing.T, texts ...string) []impl.Entry {
	t.Helper()
	var list []impl.Entry
	for _, text := range texts {
		list = append(list, handEntry(t, text))
	}
	return list
}

// Checks whose bugs, nodes and entries are written out.
func TestChecksByHand(t *testing.T) {
	const rest = "000000000000"
	for _, row := range []struct {
		lines string
		given []string
		bugs  string
		nodes int
		want  []string
	}{
		{"", nil, "", 1, []string{newKey + "||0 8 16"}},
		{"2 set 0 1", nil, "", 2, []string{newKey + "||0 8 16 17", "001000000000010||0 8 17"}},
		// a bug is the states' ahead of it alone
		{"1 add 0 0;1 assert 0 5;1 add 0 0", nil, "assert 1 1", 4,
			[]string{newKey + "|assert 1 1|0 8 9 10 11 16", "010" + rest + "|assert 1 1|0 9 10 11 16", "020" + rest + "||0 10 11 16", "030" + rest + "||0 11 16"}},
		{"0 unlock 1", nil, "fault 0 0", 2, []string{newKey + "|fault 0 0|0 1 8 16", "100" + rest + "||1 8 16"}},
		// a deadlock is the stuck state's, too
		{"0 lock 1;0 lock 1", nil, "deadlock", 2, []string{newKey + "|deadlock|0 1 8 16", "100000001000000|deadlock|1 8 16"}},
		// of a state that is come to in two ways there is one node
		{"0 assert 0 1;1 unlock 0", nil, "assert 0 0,fault 1 0", 4,
			[]string{newKey + "|assert 0 0,fault 1 0|0 1 8 9 16", "010" + rest + "|assert 0 0|0 1 9 16", "100" + rest + "|fault 1 0|1 8 9 16", "110" + rest + "||1 9 16"}},
		// an entry at the first state is used, whatever it tells
		{"0 assert 0 1;1 unlock 0", []string{newKey + "||"}, "", 0, []string{newKey + "||"}},
		{"", []string{newKey + "|assert 2 5,deadlock|7"}, "", 0, nil}, // 7 is no item
		{"", []string{newKey + "|assert 2 5,deadlock|6"}, "assert 2 5,deadlock", 0, []string{newKey + "|assert 2 5,deadlock|6"}},
		// one that is not the first one's stands in the way to what is behind it
		{"1 add 0 0;1 assert 0 5;1 add 0 0", []string{"010" + rest + "||"}, "", 1, []string{newKey + "||0 8 16", "010" + rest + "||"}},
		{"1 add 0 0;1 assert 0 5;1 add 0 0", []string{"010" + rest + "|fault 0 0|22"}, "fault 0 0", 1, []string{newKey + "|fault 0 0|0 8 16 22", "010" + rest + "|fault 0 0|22"}},
		// what the step to it finds is found all the same
		{"1 add 0 0;1 assert 0 5;1 add 0 0", []string{"020" + rest + "||3"}, "assert 1 1", 2,
			[]string{newKey + "|assert 1 1|0 3 8 9 16", "010" + rest + "|assert 1 1|0 3 9 16", "020" + rest + "||3"}},
		// a stuck state that a step leads to is found by that step, even if its entry does not tell
		{"0 lock 1;0 lock 1", []string{"100000001000000||"}, "deadlock", 1, []string{newKey + "|deadlock|0 8 16", "100000001000000||"}},
		{"0 add 0 0;0 lock 1;0 lock 1", []string{"200000001000000||5"}, "deadlock", 2,
			[]string{newKey + "|deadlock|0 1 5 8 16", "100" + rest + "|deadlock|1 5 8 16", "200000001000000||5"}},
		{"0 add 0 0;0 lock 1;0 lock 1", []string{"100" + rest + "||"}, "", 1, []string{newKey + "||0 8 16", "100" + rest + "||"}},
		// an entry that tells a deadlock of a state that is not stuck is used as well
		{"0 add 0 0", []string{"100" + rest + "|deadlock|"}, "deadlock", 1, []string{newKey + "|deadlock|0 8 16", "100" + rest + "|deadlock|"}},
		// entries of states that are not come to stay, unused
		{"0 add 0 0", []string{"200" + rest + "|deadlock|22", greatestOfKey + "|fault 0 0|0"}, "", 2,
			[]string{newKey + "||0 1 8 16", "100" + rest + "||1 8 16", "200" + rest + "|deadlock|22", greatestOfKey + "|fault 0 0|0"}},
		// one of two ways goes by an entry
		{"0 assert 0 1;1 unlock 0", []string{"100" + rest + "|deadlock|20"}, "assert 0 0,fault 1 0,deadlock", 3,
			[]string{newKey + "|assert 0 0,fault 1 0,deadlock|0 1 8 9 16 20", "010" + rest + "|assert 0 0|0 1 9 16", "100" + rest + "|deadlock|20", "110" + rest + "||1 9 16"}},
	} {
		if row.want == nil {
			r, m, code := impl.CheckAgain(programOf(t, row.lines), impl.Memo{Entries: handEntries(t, row.given...)})
			wantChecked(t, "wrong", r, m, code, checked{code: impl.ErrBad})
			continue
		}
		want := checked{bugs: handEntry(t, newKey+"|"+row.bugs+"|").Bugs, nodes: row.nodes, all: map[string]impl.Entry{}}
		for _, e := range handEntries(t, row.want...) {
			want.all[e.Key] = e
		}
		name := fmt.Sprintf("%q from %q", row.lines, row.given)
		p := programOf(t, row.lines)
		given := handEntries(t, row.given...)
		r, m, code := impl.CheckAgain(p, impl.Memo{Entries: given})
		wantChecked(t, name, r, m, code, want)
		wantAgain(t, name, p, given)
		if len(given) == 0 {
			r, m, code := impl.CheckFresh(p)
			wantChecked(t, name, r, m, code, want)
			wantMemoTrue(t, name, p, m.Entries, true)
		}
	}
}

// some picks every few-th of a list's entries, from one on.
func some(list []impl.Entry, from, few int) []impl.Entry {
	var out []impl.Entry
	for i, e := range list {
		if i%few == from%few {
			out = append(out, e)
		}
	}
	return out
}

// A check from entries of the same program, all of them and some, finds the same by
// just the nodes that are missing.
func TestChecksFromTheirOwnEntries(t *testing.T) {
	used, unused := 0, 0
	for i, p := range slices.Concat(stillPrograms(t), closePrograms()[:200], rightPrograms()[100:180]) {
		name := fmt.Sprint("program ", i)
		r, m, code := impl.CheckFresh(p)
		if code != 0 {
			continue
		}
		again, same, code := impl.CheckAgain(p, m)
		if code != 0 || again.Nodes != 0 || !slices.Equal(again.Bugs, r.Bugs) || !impl.SameMemo(same, m) {
			t.Errorf("%s: from all of its entries %v, %d", name, again, code)
		}
		for few := 2; few < 6; few++ {
			given := some(m.Entries, i, few)
			want := wantAgain(t, name, p, given)
			if !slices.Equal(want.bugs, r.Bugs) || want.nodes > r.Nodes {
				t.Errorf("%s: from some of its entries %v, %d nodes, not %v", name, want.bugs, want.nodes, r)
			}
			used += r.Nodes - want.nodes
			unused += len(given) + want.nodes - r.Nodes
			wantMemoTrue(t, name, p, rowsOf(want.all), true)
		}
		rest := m.Entries[1:] // a new state's key is the least
		if want := wantAgain(t, name, p, rest); want.nodes != 1 || !sameEntries(rowsOf(want.all), m.Entries) {
			t.Errorf("%s: from all but the first %d nodes", name, want.nodes)
		}
	}
	if used < 1000 {
		t.Error("hardly any entries are used:", used, unused)
	}
}

// The theorem of using again, told by the program's own calls: what a version keeps
// is true of it, and from there a check finds the same by no more nodes.
func TestChecksFromWhatAVersionKeeps(t *testing.T) {
	count := map[string]int{}
	programs := slices.Concat(stillPrograms(t), closePrograms()[:60], rightPrograms()[120:150])
	for i, p := range programs {
		was, m, code := impl.CheckFresh(p)
		if code != 0 {
			continue
		}
		for j, q := range append(versionsOf(p, i), programs[(i+1)%len(programs)]) {
			name := fmt.Sprintf("program %d, version %d", i, j)
			changed, _ := impl.ChangedItems(p, q)
			kept, code := impl.KeepEntries(m, changed)
			if code != 0 {
				t.Fatalf("%s: KeepEntries: %d", name, code)
			}
			fresh, whole, freshCode := impl.CheckFresh(q)
			again, all, code := impl.CheckAgain(q, kept)
			if code == impl.ErrBudget && len(kept.Entries)+fresh.Nodes > 2000 {
				count["too many"]++
				continue
			}
			if code != freshCode || !slices.Equal(again.Bugs, fresh.Bugs) || again.Nodes > fresh.Nodes || len(all.Entries) != len(kept.Entries)+again.Nodes {
				t.Errorf("%s: %v, %d from %d entries, %v, %d from nothing", name, again, code, len(kept.Entries), fresh, freshCode)
			}
			wantMemoTrue(t, name, q, all.Entries, true)
			if j%5 == 0 {
				wantChecked(t, name, again, all, code, plainCheck(q, kept.Entries))
			}
			list, code := impl.NewEntries(kept, all)
			if code != 0 || len(list) != again.Nodes {
				t.Errorf("%s: %d new entries of %d nodes, %d", name, len(list), again.Nodes, code)
			}
			wantUsedAgain(t, name, whole, all, kept)
			switch {
			case again.Nodes == 0 && len(changed) > 0:
				count["untouched"]++
			case again.Nodes == 0:
				count["unchanged"]++
			case again.Nodes == fresh.Nodes:
				count["nothing used"]++
			default:
				count["some used"]++
			}
			if !slices.Equal(was.Bugs, fresh.Bugs) {
				count["other bugs"]++
			}
			if len(kept.Entries) > 0 && len(all.Entries) > len(whole.Entries) {
				count["some unused"]++
			}
		}
	}
	for _, kind := range []string{"untouched", "unchanged", "nothing used", "some used", "some unused", "other bugs"} {
		if count[kind] < 10 {
			t.Errorf("hardly any %s: %v", kind, count)
		}
	}
}

// entryMap has a memo's entries by their keys.
func entryMap(m impl.Memo) map[string]impl.Entry {
	all := map[string]impl.Entry{}
	for _, e := range m.Entries {
		all[e.Key] = e
	}
	return all
}

// wantUsedAgain asks that a check with kept entries has those, and, of all states
// that it came to, what one from nothing has.
func wantUsedAgain(t *testing.T, name string, whole, all, kept impl.Memo) {
	t.Helper()
	was, fresh := entryMap(kept), entryMap(whole)
	for _, e := range all.Entries {
		old, isOld := was[e.Key]
		if isOld && !sameEntry(old, e) {
			t.Errorf("%s: %v was kept, and is %v", name, old, e)
		}
		other, isFresh := fresh[e.Key]
		if isFresh && !sameEntry(other, e) || !isOld && !isFresh {
			t.Errorf("%s: %v is %v in a check from nothing, %v", name, e, other, isFresh)
		}
	}
}

// Entries that are not true are used all the same.
func TestChecksFromEntriesThatAreNotTrue(t *testing.T) {
	count := map[string]int{}
	for i, p := range slices.Concat(stillPrograms(t), closePrograms()[:200]) {
		all := plainCheck(p, nil)
		if all.code != 0 {
			continue
		}
		for j := range 4 {
			name := fmt.Sprint("program ", i, ", lies ", j)
			var given []impl.Entry
			for n, e := range rowsOf(all.all) {
				if (n*7+i+j)%(3+j*2) == 0 {
					given = append(given, someEntry(e.Key, (i+j*5+n*3)%40))
				}
			}
			if j == 3 { // few bugs, so that a node's entry can be right
				for n := range given {
					given[n].Bugs = given[n].Bugs[:min(len(given[n].Bugs), 2)]
				}
			}
			want := wantAgain(t, name, p, given)
			switch {
			case want.code != 0:
				count[impl.CodeWord(want.code)]++
			case want.nodes == 0:
				count["first"]++
			case len(want.bugs) > 30:
				count["many bugs"]++
			case !slices.Equal(want.bugs, all.bugs):
				count["other bugs"]++
			}
			if len(given) > 0 && want.code == 0 {
				wantMemoTrue(t, name, p, given, slices.IndexFunc(given, func(e impl.Entry) bool { return !sameEntry(e, all.all[e.Key]) }) < 0)
			}
		}
	}
	for _, kind := range []string{"first", "other bugs", "many bugs"} {
		if count[kind] < 10 {
			t.Errorf("hardly any %s: %v", kind, count)
		}
	}
}

// A stuck state's entry that says nothing hides no deadlock, but one further off does.
func TestStuckStatesAreFoundByTheStepToThem(t *testing.T) {
	asked := 0
	for i, p := range slices.Concat(stillPrograms(t), closePrograms()) {
		all := plainCheck(p, nil)
		var given []impl.Entry
		for _, e := range rowsOf(all.all) {
			if plainStuck(p, e.Key) {
				given = append(given, impl.Entry{Key: e.Key, Foot: e.Foot})
			}
		}
		if len(given) == 0 {
			continue
		}
		asked++
		name := fmt.Sprint("program ", i)
		want := wantAgain(t, name, p, given)
		if !slices.Equal(want.bugs, all.bugs) || want.nodes != all.nodes-len(given) {
			t.Errorf("%s: %v, not %v", name, want.bugs, all.bugs)
		}
		wantMemoTrue(t, name, p, given, false)
	}
	if asked < 50 {
		t.Error("hardly any programs:", asked)
	}
}

// bugsFrom has n bugs of all that there are, from one on.
func bugsFrom(from, n int) []impl.Bug {
	bugs, _ := plainBugs()
	return slices.Clone(bugs[from : from+n])
}

// toldMany are two entries of the states behind the first steps of threads 1 and 0:
// the one has the first bugs of all that there are, the other one those behind them.
func toldMany(one, zero int) []impl.Entry {
	return []impl.Entry{{Key: "010000000000000", Bugs: bugsFrom(0, one)}, {Key: "100000000000000", Bugs: bugsFrom(one, zero)}}
}

// Of two right entries that are not true a state comes to more bugs than they may
// have, or to just as many: all of them are found, and stand in its entry.
func TestChecksThatComeToManyBugs(t *testing.T) {
	p := programOf(t, "0 add 0 0;1 add 0 0")
	for _, row := range []struct{ one, zero int }{{15, 15}, {30, 0}, {0, 30}, {29, 1}, {16, 15}, {15, 16}, {30, 1}, {1, 30}, {18, 18}, {7, 30}, {30, 7}} {
		name, n := fmt.Sprint(row), row.one+row.zero
		given := toldMany(row.one, row.zero)
		if !impl.MemoOK(impl.Memo{Entries: given}) {
			t.Fatal(name, "what is given is not right")
		}
		first := impl.Entry{Key: newKey, Bugs: bugsFrom(0, n), Foot: []int{0, 8, 16}}
		want := checked{bugs: first.Bugs, nodes: 1, all: map[string]impl.Entry{newKey: first, given[0].Key: given[0], given[1].Key: given[1]}}
		r, m, code := impl.CheckAgain(p, impl.Memo{Entries: given})
		wantChecked(t, name, r, m, code, want)
		wantAgain(t, name, p, given)
		if tellsMany(first) { // such an entry is not right where it comes in
			wantCheckBad(t, name, p, m)
			wantEntryBad(t, name, p, first)
			wantNewBad(t, name, impl.Memo{}, m)
		}
	}
}

// Alike bugs count once; a step's own one, and a stuck state's, count with those of
// entries; what comes to many is handed on by nodes ahead of it.
func TestManyBugsOfEntriesAndSteps(t *testing.T) {
	thirty := []impl.Entry{{Key: "010000000000000", Bugs: bugsFrom(0, 30)}, {Key: "100000000000000", Bugs: bugsFrom(0, 30)}}
	for _, row := range []struct {
		lines string
		given []impl.Entry
		bugs  int
		nodes int
	}{
		{"0 add 0 0;1 add 0 0", thirty, 30, 1},
		{"0 add 0 0;1 unlock 0", thirty, 30, 1},
		{"0 add 0 0;1 add 0 0;2 unlock 0", thirty, 31, 5},
		{"2 add 0 0;2 lock 0;2 lock 0", []impl.Entry{{Key: "002000030000000", Bugs: bugsFrom(0, 30)}}, 31, 2},
		{"2 add 0 0;0 add 0 0;1 add 0 0", []impl.Entry{{Key: "011000000000000", Bugs: bugsFrom(0, 18)}, {Key: "101000000000000", Bugs: bugsFrom(18, 19)}}, 37, 6},
		{"0 add 0 0;1 add 0 0", append([]impl.Entry{{Key: newKey, Bugs: bugsFrom(3, 4)}}, toldMany(18, 18)...), 4, 0},
	} {
		name := fmt.Sprintf("%q, %d entries", row.lines, len(row.given))
		want := wantAgain(t, name, programOf(t, row.lines), row.given)
		if want.code != 0 || len(want.bugs) != row.bugs || want.nodes != row.nodes {
			t.Errorf("%s: %d bugs, %d nodes, %d", name, len(want.bugs), want.nodes, want.code)
		}
	}
}

// Many bugs are no reason for a code, nor do they hide one.
func TestManyBugsAtTheBoundOfEntries(t *testing.T) {
	p := programOf(t, "0 add 0 0;1 add 0 0")
	for _, n := range []int{0, 1, 1996, 1997, 1998} {
		given := append(foreign(n), toldMany(18, 18)...)
		want := wantAgain(t, fmt.Sprint(n, " others"), p, given)
		if (want.code == 0) != (n+3 <= 2000) || want.code != 0 && want.code != impl.ErrBudget || want.code == 0 && len(want.bugs) != 36 {
			t.Errorf("%d others: %d bugs, %d", n, len(want.bugs), want.code)
		}
	}
}

// foreign has n entries of states that are not come to, as thread 2 stands too far.
func foreign(n int) []impl.Entry {
	var list []impl.Entry
	for i := range n {
		list = append(list, impl.Entry{Key: fmt.Sprintf("006%04d00000000", i), Foot: []int{0, 22}})
	}
	return list
}

// As many entries as there may be, and one more.
func TestChecksAtTheBoundOfEntries(t *testing.T) {
	for _, lines := range []string{"", "0 set 0 1", "0 assert 0 1;0 unlock 1;1 lock 0;1 lock 0", "0 add 0 0;0 add 0 0;0 add 0 0;1 add 0 0;1 add 0 0"} {
		p := programOf(t, lines)
		r, m, code := impl.CheckFresh(p)
		if code != 0 {
			t.Fatalf("CheckFresh(%q): %d", lines, code)
		}
		for _, n := range []int{0, 1, 1000, 1999 - r.Nodes, 2000 - r.Nodes, 2001 - r.Nodes, 2002 - r.Nodes, 1999, 2000} {
			name := fmt.Sprintf("%q, %d others", lines, n)
			n = min(n, 2000)
			want := wantAgain(t, name, p, foreign(n))
			if (want.code == 0) != (n+r.Nodes <= 2000) || want.code == 0 && !slices.Equal(want.bugs, r.Bugs) {
				t.Errorf("%s: %d", name, want.code)
			}
			// with all that is needed there is never one too many
			given := append(slices.Clone(m.Entries), foreign(n)[:min(n, 2000-len(m.Entries))]...)
			slices.SortFunc(given, func(a, b impl.Entry) int { return strings.Compare(a.Key, b.Key) })
			if want := wantAgain(t, name+", its own", p, given); want.code != 0 || want.nodes != 0 {
				t.Errorf("%s, its own: %d nodes, %d", name, want.nodes, want.code)
			}
			// the first one's entry alone does it
			given = append([]impl.Entry{{Key: newKey, Bugs: []impl.Bug{{Kind: 14}}}}, foreign(min(n, 1999))...)
			if want := wantAgain(t, name+", the first", p, given); want.code != 0 || want.nodes != 0 || len(want.bugs) != 1 {
				t.Errorf("%s, the first: %d nodes, %d", name, want.nodes, want.code)
			}
		}
		r, none, code := impl.CheckAgain(p, impl.Memo{Entries: foreign(2001)})
		wantChecked(t, "2001 entries", r, none, code, checked{code: impl.ErrBad})
	}
}

// As many states as there may be, and one more, and one less, from the first on.
func TestChecksAtTheBoundOfStates(t *testing.T) {
	for lines, n := range boundPrograms() {
		p := programOf(t, lines)
		want := wantFresh(t, lines, p)
		if n > 2000 {
			if want.code != impl.ErrBudget {
				t.Errorf("%q: %d", lines, want.code)
			}
			first, _ := plainComes(p, newKey)
			wantEntryTrue(t, lines, p, first, false)
			continue
		}
		bugs, _ := impl.AllBugs(p)
		if want.nodes != n || !slices.Equal(want.bugs, bugs) {
			t.Errorf("%q: %d nodes, %v", lines, want.nodes, want.bugs)
		}
		rows := rowsOf(want.all)
		wantEntryTrue(t, lines, p, rows[0], true)
		wantMemoTrue(t, lines, p, rows, true)
		wantAgain(t, lines+" from all", p, rows)
		wantAgain(t, lines+" from some", p, some(rows, 1, 3))
		for _, more := range []int{1, 2} {
			if want := wantAgain(t, lines+" and others", p, foreign(more)); (want.code == 0) != (n+more <= 2000) {
				t.Errorf("%q and %d others: %d", lines, more, want.code)
			}
		}
		for _, at := range []int{0, 1, n / 2, n - 1} {
			lie := slices.Clone(rows)
			lie[at].Foot = lie[at].Foot[1:]
			wantMemoTrue(t, fmt.Sprint(lines, " but ", at), p, lie, false)
		}
	}
}

// Far more states than there may be, unless an entry stands in the way to them.
func TestChecksOfFarTooManyStates(t *testing.T) {
	for i, p := range beyondPrograms(t) {
		name := fmt.Sprint("program ", i)
		if want := wantFresh(t, name, p); want.code != impl.ErrBudget {
			t.Errorf("%s: %d", name, want.code)
		}
		given := []impl.Entry{{Key: "001000000000000"}, {Key: "010000000000000"}, {Key: "100000000000000"}}
		if want := wantAgain(t, name, p, given); want.code != 0 || want.nodes != 1 || len(want.bugs) != 3 {
			t.Errorf("%s: %v, %d nodes, %d", name, want.bugs, want.nodes, want.code)
		}
		if want := wantAgain(t, name, p, given[1:]); want.code != impl.ErrBudget {
			t.Errorf("%s: with a way left %d", name, want.code)
		}
		first, _ := plainComes(p, newKey)
		wantEntryTrue(t, name, p, first, false)
		wantEntryTrue(t, name, p, impl.Entry{Key: newKey}, false)
		// near to the end there are few
		e, n := plainComes(p, "355000000000000")
		if n > 100 {
			t.Errorf("%s: %d states", name, n)
		}
		wantEntryTrue(t, name, p, e, true)
		wantMemoTrue(t, name, p, []impl.Entry{first, e}, false)
		wantMemoTrue(t, name, p, []impl.Entry{{Key: newKey}, e}, false)
	}
}

// liesOf are near to an entry, each of one bug or item more or less, or of another key.
func liesOf(e impl.Entry) []impl.Entry {
	var all []impl.Entry
	bugs, _ := plainBugs()
	for _, b := range bugs {
		lie := clonedEntry(e)
		if at := slices.Index(lie.Bugs, b); at >= 0 {
			lie.Bugs = slices.Delete(lie.Bugs, at, at+1)
		} else {
			lie.Bugs = plainMerge(append(lie.Bugs, b))
		}
		all = append(all, lie)
	}
	for _, item := range everyItem() {
		lie := clonedEntry(e)
		if at := slices.Index(lie.Foot, item); at >= 0 {
			lie.Foot = slices.Delete(lie.Foot, at, at+1)
		} else {
			lie.Foot = plainUnion(append(lie.Foot, item))
		}
		all = append(all, lie)
	}
	return append(all, impl.Entry{Key: e.Key})
}

// Entries are true of all states, not only of those that are reached, and just those.
func TestEntriesThatAreTrue(t *testing.T) {
	count := map[string]int{}
	keys := rightKeys()
	for i, p := range slices.Concat(stillPrograms(t), closePrograms()[:100], rightPrograms()[80:160]) {
		name := fmt.Sprint("program ", i)
		reached := keysOf(plainSpace(p))
		for j, key := range []string{newKey, reached[i*7%len(reached)], reached[len(reached)-1], keys[i*3%len(keys)], keys[(i*11+5)%len(keys)], "000000012000000", greatestOfKey, manyKeys(10)[i%10]} {
			e, n := plainComes(p, key)
			wantEntryTrue(t, name, p, e, n <= 2000)
			if n > 2000 {
				count["beyond"]++
				continue
			}
			if plainStuck(p, key) {
				count["stuck at once"]++
			}
			if !slices.Contains(reached, key) {
				count["not reached"]++
			}
			if (i+j)%5 == 0 {
				for _, lie := range liesOf(e) {
					if len(lie.Bugs)+len(lie.Foot) > 0 {
						count["lies"]++
						wantEntryTrue(t, name, p, lie, false)
					}
				}
			}
			for _, bent := range bentKeys(key)[:2] { // where threads stand matters
				if other, n := plainComes(p, bent); n <= 2000 {
					e.Key = bent
					wantEntryTrue(t, name, p, e, sameEntry(e, other))
				}
			}
		}
	}
	for _, kind := range []string{"stuck at once", "not reached", "lies"} {
		if count[kind] < 20 {
			t.Errorf("hardly any %s: %v", kind, count)
		}
	}
}

func TestEntriesThatAreTrueByHand(t *testing.T) {
	const rest = "000000000000"
	locks := "0 lock 0;0 lock 1;0 assert 0 1;1 lock 1;1 lock 0;1 unlock 1"
	for _, row := range []struct {
		lines, entry string
		want         bool
	}{
		{"", newKey + "||0 8 16", true},
		{"", newKey + "||", false},
		{"", newKey + "||0 8", false},
		{"", newKey + "||0 8 16 17", false},
		{"", newKey + "|deadlock|0 8 16", false},
		// states behind all ends are states, too
		{"", greatestOfKey + "||6 14 22", true},
		{"0 set 0 1", "200" + rest + "||2 8 16", true},
		{"0 set 0 1", "100" + rest + "||1 8 16", true}, // not reached: the register would be 1
		{"0 set 0 1", newKey + "||0 1 8 16", true},
		{"0 set 0 1", newKey + "||0 8 16", false},
		// stuck at once, without a step to it
		{locks, "110000012000000|deadlock|1 9 16", true},
		{locks, "110000012000000||1 9 16", false},
		{locks, "110000012000000|deadlock|1 9", false},
		{locks, "110000012000000|assert 0 2,deadlock|1 9 16", false},
		{locks, "000000033000000|deadlock|0 8 16", true}, // thread 2 has both, and is done
		{locks, "330000033000000||3 11 16", true},        // all are done
		{locks, "230000030000000|assert 0 2|2 3 11 16", true},
		{locks, "230000030000000||2 3 11 16", false},
		{locks, "130000010000000|assert 0 2|1 2 3 11 16", true},
		{locks, "130000010000000|assert 0 2,deadlock|1 2 3 11 16", false},
		{locks, "320000020000000|fault 1 2|3 10 11 16", true}, // lock 1 is nobody's
		{locks, "320000002000000||3 10 11 16", true},
		{locks, "320000002000000|fault 1 2|3 10 11 16", false},
	} {
		wantEntryTrue(t, row.lines+", "+row.entry, programOf(t, row.lines), handEntry(t, row.entry), row.want)
	}
}

// One entry that is not true is enough, wherever it is.
func TestMemosThatAreTrue(t *testing.T) {
	for i, p := range slices.Concat(stillPrograms(t), closePrograms()[:20]) {
		name := fmt.Sprint("program ", i)
		wantMemoTrue(t, name, p, nil, true)
		rows := rowsOf(plainCheck(p, nil).all)
		wantMemoTrue(t, name, p, rows, true)
		for at := range rows {
			lie := slices.Clone(rows)
			lies := liesOf(rows[at])
			lie[at] = lies[(at*5+i)%len(lies)]
			wantMemoTrue(t, name+" but "+fmt.Sprint(at), p, lie, false)
			wantMemoTrue(t, name+" from "+fmt.Sprint(at), p, rows[at:], true)
		}
	}
	full := foreign(2000)
	for i := range full {
		full[i].Foot = []int{0, 8, 22}
	}
	wantMemoTrue(t, "full", impl.Program{Code: make([][]impl.Instr, 3)}, full, true)
	full[1999].Foot = []int{0, 8, 21}
	wantMemoTrue(t, "full but the last", impl.Program{Code: make([][]impl.Instr, 3)}, full, false)
}

// Entries that lead to more than 2000 states together, none of them alone: of each
// one just its own count.
func TestMemosThatLeadToManyStates(t *testing.T) {
	p := setProgram(6, 6, 6) // 343 states from each with a shared value of its own
	var list []impl.Entry
	for i := range 40 {
		e, n := plainComes(p, fmt.Sprintf("000%04d00000000", i*3))
		if n != 343 {
			t.Fatalf("%d states, not 343", n)
		}
		list = append(list, e)
	}
	wantMemoTrue(t, "many", p, list, true)
	for at := range list {
		lie := slices.Clone(list)
		lie[at] = impl.Entry{Key: lie[at].Key, Foot: lie[at].Foot[:20]}
		wantMemoTrue(t, fmt.Sprint("many but ", at), p, lie, false)
	}
	for lines, n := range boundPrograms() {
		p := programOf(t, lines)
		var ends, all []impl.Entry
		for i := range 30 { // some states of their own ahead of those that count, and behind them
			e, _ := plainComes(p, fmt.Sprintf("455%04d00000000", 7000+i*31))
			ends = append(ends, e)
		}
		first, _ := plainComes(p, newKey)
		all = append([]impl.Entry{first}, ends...)
		wantMemoTrue(t, "ends", p, ends, true)
		wantMemoTrue(t, fmt.Sprint("first and ends of ", n), p, all, n <= 2000)
	}
}

func wantNewEntries(t *testing.T, name string, was, now []impl.Entry) int {
	t.Helper()
	there := map[string]bool{}
	for _, e := range was {
		there[e.Key] = true
	}
	var want []impl.Entry
	for _, e := range now {
		if !there[e.Key] {
			want = append(want, e)
		}
	}
	list, code := impl.NewEntries(impl.Memo{Entries: was}, impl.Memo{Entries: now})
	if code != 0 || !sameEntries(list, want) {
		t.Errorf("%s: NewEntries = %s, %d, not %s", name, brief(list), code, brief(want))
	}
	return len(want)
}

func TestNewEntries(t *testing.T) {
	counts := map[string]int{}
	all := someMemo(24, 5).Entries
	for i := range 12 {
		for j := range 12 {
			was, now := some(all, i, i%5+1), some(all, j, j%4+1)
			for n := range now { // keys alone count
				if n%3 == j%3 {
					now[n] = someEntry(now[n].Key, 60+n)
				}
			}
			switch n := wantNewEntries(t, fmt.Sprint(i, " and ", j), was, now); {
			case n == 0:
				counts["none"]++
			case n == len(now):
				counts["all"]++
			default:
				counts["some"]++
			}
		}
	}
	for _, kind := range []string{"none", "all", "some"} {
		if counts[kind] < 10 {
			t.Errorf("hardly any %s: %v", kind, counts)
		}
	}
	for _, m := range [][]impl.Entry{nil, all, all[:1], foreign(2000), someMemo(2000, 3).Entries} {
		if wantNewEntries(t, "of itself", m, m) != 0 || wantNewEntries(t, "of nothing", nil, m) != len(m) || wantNewEntries(t, "nothing", m, nil) != 0 {
			t.Error("new entries of itself, or of nothing not all")
		}
		wantNewEntries(t, "others", m, foreign(1999))
		wantNewEntries(t, "others", foreign(1000), m)
		wantNewEntries(t, "others", m, someMemo(1999, 8).Entries)
	}
}

func TestNewEntriesByHand(t *testing.T) {
	a, b, c, d := impl.Entry{Key: newKey, Foot: []int{3}}, impl.Entry{Key: "000000000000001", Bugs: bugsFrom(3, 2)}, impl.Entry{Key: "100000000000000"}, impl.Entry{Key: greatestOfKey}
	other := impl.Entry{Key: b.Key, Foot: []int{22}}
	for i, row := range []struct{ was, now, want []impl.Entry }{
		{nil, nil, nil},
		{nil, []impl.Entry{a}, []impl.Entry{a}},
		{[]impl.Entry{a}, nil, nil},
		{[]impl.Entry{a}, []impl.Entry{a}, nil},
		{[]impl.Entry{b}, []impl.Entry{other}, nil},
		{[]impl.Entry{b}, []impl.Entry{a, other, c}, []impl.Entry{a, c}},
		{[]impl.Entry{a, c}, []impl.Entry{a, b, c, d}, []impl.Entry{b, d}},
		{[]impl.Entry{a, d}, []impl.Entry{b, c}, []impl.Entry{b, c}},
		{[]impl.Entry{a, b, c, d}, []impl.Entry{b, c}, nil},
		{[]impl.Entry{d}, []impl.Entry{a, b, c}, []impl.Entry{a, b, c}},
		{[]impl.Entry{a}, []impl.Entry{b, c, d}, []impl.Entry{b, c, d}},
	} {
		list, code := impl.NewEntries(impl.Memo{Entries: row.was}, impl.Memo{Entries: row.now})
		if code != 0 || !sameEntries(list, row.want) {
			t.Errorf("row %d: %v, %d, not %v", i, list, code, row.want)
		}
	}
}

// wantCheckBad asks for ErrBad of all calls that have these arguments.
func wantCheckBad(t *testing.T, name string, p impl.Program, m impl.Memo) {
	t.Helper()
	r, all, code := impl.CheckAgain(p, m)
	wantChecked(t, name+", CheckAgain", r, all, code, checked{code: impl.ErrBad})
	if yes, code := impl.MemoTrue(p, m); yes || code != impl.ErrBad {
		t.Errorf("%s: MemoTrue = %v, %d", name, yes, code)
	}
}

func wantEntryBad(t *testing.T, name string, p impl.Program, e impl.Entry) {
	t.Helper()
	if yes, code := impl.EntryTrue(p, e); yes || code != impl.ErrBad {
		t.Errorf("%s: EntryTrue = %v, %d", name, yes, code)
	}
}

func wantNewBad(t *testing.T, name string, was, now impl.Memo) {
	t.Helper()
	if list, code := impl.NewEntries(was, now); len(list) != 0 || code != impl.ErrBad {
		t.Errorf("%s: NewEntries = %s, %d", name, brief(list), code)
	}
}

// wrongMemos have entries that are wrong, too many, in the wrong order, or twice.
func wrongMemos() []impl.Memo {
	all := []impl.Memo{{Entries: make([]impl.Entry, 1)}, {Entries: foreign(2001)}, {Entries: make([]impl.Entry, 2001)}, {Entries: slices.Repeat(foreign(1), 2)}}
	turned := foreign(5)
	turned[2], turned[3] = turned[3], turned[2]
	all = append(all, impl.Memo{Entries: turned})
	for i, e := range wrongEntries() {
		if i%17 == 0 || i < 6 {
			all = append(all, impl.Memo{Entries: []impl.Entry{e}}, impl.Memo{Entries: append(foreign(3), e)}, impl.Memo{Entries: append([]impl.Entry{e}, foreign(3)...)})
		}
	}
	return all
}

func TestChecksThatAreWrong(t *testing.T) {
	right := programOf(t, "0 set 0 1;1 assert 0 1")
	wrong := wrongMemos()
	memos := []impl.Memo{{}, {Entries: foreign(3)}, {Entries: []impl.Entry{{Key: newKey}}}, {Entries: foreign(2000)}, wrong[0], wrong[1], wrong[4]}
	for i, p := range wrongPrograms() {
		name := fmt.Sprint("program ", i)
		r, m, code := impl.CheckFresh(p)
		wantChecked(t, name, r, m, code, checked{code: impl.ErrBad})
		wantCheckBad(t, name, p, memos[i%len(memos)])
		wantCheckBad(t, name, p, impl.Memo{Entries: []impl.Entry{{Key: newKey}}})
		wantCheckBad(t, name, p, impl.Memo{})
		for _, e := range []impl.Entry{{Key: newKey}, {}, {Key: newKey, Foot: []int{0, 8, 16}}, {Key: greatestOfKey, Foot: []int{6, 14, 22}}, greatestEntry()} {
			wantEntryBad(t, name, p, e)
		}
	}
	for i, m := range wrong {
		name := fmt.Sprint("memo ", i)
		wantCheckBad(t, name, right, m)
		wantCheckBad(t, name, impl.Program{}, m)
		for _, p := range beyondPrograms(t) { // bad comes ahead of too many states
			wantCheckBad(t, name, p, m)
		}
		for _, other := range memos {
			wantNewBad(t, name, m, other)
			wantNewBad(t, name, other, m)
		}
		wantNewBad(t, name, m, m)
	}
	for i, e := range wrongEntries() {
		wantEntryBad(t, fmt.Sprint("entry ", i), right, e)
		wantEntryBad(t, fmt.Sprint("entry ", i), impl.Program{}, e)
		wantEntryBad(t, fmt.Sprint("entry ", i), beyondPrograms(t)[0], e)
	}
}
