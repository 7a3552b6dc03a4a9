package tests

import (
	"fmt"
	"math"
	"slices"
	"strings"
	"testing"

	"loop.example/g00632/impl"
)

// plainFold is the second writing of what a log says: a map of entries, and texts
// of what two versions hold at the items of a foot.
func plainFold(list []impl.Record) impl.Facts {
	var f impl.Facts
	entries := map[string]impl.Entry{}
	for _, r := range list {
		switch {
		case r.Kind == 1:
			p, _ := plainUnpack(r.Text)
			for key, e := range entries {
				if plainTouched(f.Program, p, e.Foot) {
					delete(entries, key)
				}
			}
			f.Has, f.Program = true, p
		case !f.Has:
		case r.Kind == 2:
			e, _ := plainReadEntry(r.Text)
			if _, there := entries[e.Key]; there || len(entries) < 2000 {
				entries[e.Key] = e
			}
		default:
			f.HasBase, f.Base = true, f.Program
			f.BaseBugs, _ = plainReadCommit(r.Text)
		}
	}
	f.Memo = impl.Memo{Entries: rowsOf(entries)}
	return f
}

func plainTouched(p, q impl.Program, foot []int) bool {
	was, now := plainSites(p, instrTexts), plainSites(q, instrTexts)
	return slices.ContainsFunc(foot, func(item int) bool { return was[item/8][item%8] != now[item/8][item%8] })
}

// plainRegress is the second writing of acts: what is sure on the disk, and what the
// last check found. What is known is told by the disk alone.
type plainRegress struct {
	up, checked bool
	sure        string
	bugs        []impl.Bug
	nodes       int
}

func (r plainRegress) facts() impl.Facts {
	if !r.up {
		return impl.Facts{}
	}
	list, _ := plainLog(r.sure)
	return plainFold(list)
}

func (r plainRegress) regress() impl.Regress {
	return impl.Regress{Up: r.up, Checked: r.checked, Disk: impl.Disk{Sure: r.sure}, Facts: r.facts(), Bugs: r.bugs, Nodes: r.nodes}
}

// laid has a record more, if there is room for it.
func (r plainRegress) laid(record impl.Record) (plainRegress, int) {
	log := r.sure + plainRecordText(record)
	if len(log) > 60000 {
		return r, impl.ErrFull
	}
	r.sure = log
	return r, impl.OK
}

func (r plainRegress) act(a impl.Act) (plainRegress, int) {
	if r.up == (a.Kind == 5) {
		return r, map[bool]int{true: impl.ErrUp, false: impl.ErrDown}[r.up]
	}
	switch a.Kind {
	case 1:
		next, code := r.laid(versionRecord(a.Program))
		if code != 0 {
			return r, code
		}
		return plainRegress{up: true, sure: next.sure}, impl.OK
	case 2, 6:
		return r.check(a)
	case 3:
		if !r.checked {
			return r, impl.ErrNone
		}
		return r.laid(commitRecord(r.bugs))
	case 4:
		return plainRegress{sure: r.sure}, impl.OK
	case 5:
		_, used := plainLog(r.sure)
		return plainRegress{up: true, sure: r.sure[:used]}, impl.OK
	default:
		log, _ := logOf(plainCompact(r.facts()))
		if len(log) > 60000 {
			return r, impl.ErrFull
		}
		r.sure = log
		return r, impl.OK
	}
}

func (r plainRegress) check(a impl.Act) (plainRegress, int) {
	f := r.facts()
	if !f.Has {
		return r, impl.ErrNone
	}
	c := plainCheck(f.Program, f.Memo.Entries)
	if c.code != 0 {
		return r, c.code
	}
	next := plainRegress{up: true, checked: true, sure: r.sure, bugs: c.bugs, nodes: c.nodes}
	for _, e := range newOnes(f.Memo, rowsOf(c.all)) {
		more, code := next.laid(entryRecord(e))
		if code != 0 || tellsMany(e) {
			break
		}
		next = more
	}
	if a.Kind == 6 {
		return plainRegress{sure: next.sure[:min(len(next.sure), len(r.sure)+a.N)]}, impl.OK
	}
	return next, impl.OK
}

func newOnes(was impl.Memo, now []impl.Entry) []impl.Entry {
	known := entryMap(was)
	return slices.DeleteFunc(slices.Clone(now), func(e impl.Entry) bool { _, there := known[e.Key]; return there })
}

func plainCompact(f impl.Facts) []impl.Record {
	var list []impl.Record
	if f.HasBase {
		list = append(list, versionRecord(f.Base), commitRecord(f.BaseBugs))
	}
	if f.Has {
		list = append(list, versionRecord(f.Program))
	}
	for _, e := range f.Memo.Entries {
		list = append(list, entryRecord(e))
	}
	return list
}

func sameFacts(a, b impl.Facts) bool {
	return a.Has == b.Has && a.HasBase == b.HasBase && alike(a.Program, b.Program) && len(a.Program.Code) == len(b.Program.Code) &&
		alike(a.Base, b.Base) && len(a.Base.Code) == len(b.Base.Code) && sameEntries(a.Memo.Entries, b.Memo.Entries) && slices.Equal(a.BaseBugs, b.BaseBugs)
}

func sameRegress(a, b impl.Regress) bool {
	return a.Up == b.Up && a.Checked == b.Checked && a.Disk == b.Disk && sameFacts(a.Facts, b.Facts) && slices.Equal(a.Bugs, b.Bugs) && a.Nodes == b.Nodes
}

func clonedFacts(f impl.Facts) impl.Facts {
	f.Program, f.Base = cloned(f.Program), cloned(f.Base)
	f.Memo.Entries, f.BaseBugs = clonedEntries(f.Memo.Entries), slices.Clone(f.BaseBugs)
	return f
}

func clonedRegress(r impl.Regress) impl.Regress {
	r.Facts, r.Bugs = clonedFacts(r.Facts), slices.Clone(r.Bugs)
	return r
}

func toldFacts(f impl.Facts) string {
	return fmt.Sprintf("%v %v, base %v %v with %v, %d entries %s", f.Has, f.Program, f.HasBase, f.Base, f.BaseBugs, len(f.Memo.Entries), brief(f.Memo.Entries))
}

func toldRegress(r impl.Regress) string {
	return fmt.Sprintf("up %v, checked %v, disk %s, bugs %v, nodes %d, knows %s", r.Up, r.Checked, sizes(r.Disk), r.Bugs, r.Nodes, toldFacts(r.Facts))
}

// wantFold tells what a list of records says.
func wantFold(t *testing.T, name string, list []impl.Record) impl.Facts {
	t.Helper()
	f, code := impl.FoldLog(list)
	if want := plainFold(list); !sameFacts(f, want) || code != 0 {
		t.Errorf("%s: FoldLog is %s, %d, not %s", name, toldFacts(f), code, toldFacts(want))
	}
	return f
}

// wantRegress holds a regression against what it must be, and asks whether it is
// right; what it knows is told again by its log, from nothing.
func wantRegress(t *testing.T, name string, got, want impl.Regress) {
	t.Helper()
	if !sameRegress(got, want) {
		t.Errorf("%s: %s, not %s", name, toldRegress(got), toldRegress(want))
	}
	if !impl.RegressOK(got) || !impl.SameRegress(got, want) {
		t.Errorf("%s: not right: %s", name, toldRegress(got))
	}
	list, used, code := impl.ReadLog(got.Disk)
	if got.Up && len(list) <= 4096 {
		if f, foldCode := impl.FoldLog(list); !sameFacts(f, got.Facts) || used != len(got.Disk.Sure) || code != 0 || foldCode != 0 {
			t.Errorf("%s: the log says %s, %d, not %s", name, toldFacts(f), foldCode, toldFacts(got.Facts))
		}
	}
}

// regressRun is what acts lead to, by the program and by the second writing.
type regressRun struct {
	t     *testing.T
	r     impl.Regress
	plain plainRegress
	acts  []impl.Act
	codes []int
}

func newRun(t *testing.T) *regressRun {
	return &regressRun{t: t, r: impl.NewRegress(), plain: plainRegress{up: true}}
}

// wantAct holds an act against the second writing, whatever is true.
func wantAct(t *testing.T, name string, was impl.Regress, plain plainRegress, a impl.Act) (impl.Regress, plainRegress, int) {
	t.Helper()
	name = fmt.Sprintf("%s, an act of kind %d", name, a.Kind)
	next, code := impl.ActDo(was, a)
	plain, plainCode := plain.act(a)
	if code != plainCode || !impl.ActOK(a) {
		t.Errorf("%s: %d, not %d; ActOK %v", name, code, plainCode, impl.ActOK(a))
	}
	wantRegress(t, name, next, plain.regress())
	if code != 0 && !sameRegress(next, was) {
		t.Errorf("%s, %d: not as it was: %s, but %s", name, code, toldRegress(was), toldRegress(next))
	}
	return next, plain, code
}

// do asks as well whether what is known behind an act is true.
func (x *regressRun) do(a impl.Act) int {
	x.t.Helper()
	name := fmt.Sprintf("act %d", len(x.acts))
	next, plain, code := wantAct(x.t, name, x.r, x.plain, a)
	if yes, code := impl.FactsTrue(next.Facts); !yes || code != 0 {
		x.t.Errorf("%s: FactsTrue is %v, %d of %s", name, yes, code, toldFacts(next.Facts))
	}
	x.r, x.plain, x.acts, x.codes = next, plain, append(x.acts, a), append(x.codes, code)
	if a.Kind == 2 && code == 0 {
		x.wantFound(name)
	}
	return code
}

// wantFound asks for the theorem of regressions: just what a check from nothing finds.
func (x *regressRun) wantFound(name string) {
	x.t.Helper()
	fresh, _, code := impl.CheckFresh(x.r.Facts.Program)
	if code == 0 && (!slices.Equal(fresh.Bugs, x.r.Bugs) || x.r.Nodes > fresh.Nodes) {
		x.t.Errorf("%s: finds %v, %d nodes, and from nothing %v, %d", name, x.r.Bugs, x.r.Nodes, fresh.Bugs, fresh.Nodes)
	}
	if bugs, code := impl.AllBugs(x.r.Facts.Program); code == 0 && !slices.Equal(bugs, x.r.Bugs) {
		x.t.Errorf("%s: finds %v, and all schedules %v", name, x.r.Bugs, bugs)
	}
}

// end asks whether all of the acts at once lead to the same.
func (x *regressRun) end() {
	x.t.Helper()
	r, codes, code := impl.ActsRun(x.acts)
	if code != 0 || !slices.Equal(codes, x.codes) {
		x.t.Errorf("ActsRun of %d acts: %v, %d, not %v", len(x.acts), codes, code, x.codes)
	}
	wantRegress(x.t, "ActsRun", r, x.r)
}

// runFrom begins with a log that is on the disk.
func runFrom(t *testing.T, sure string) *regressRun {
	t.Helper()
	return &regressRun{t: t, r: recovered(t, sure), plain: plainRegress{up: true, sure: sure}}
}

func act(kind int) impl.Act { return impl.Act{Kind: kind} }

func submitted(p impl.Program) impl.Act { return impl.Act{Kind: impl.AcSubmit, Program: p} }

func torn(n int) impl.Act { return impl.Act{Kind: impl.AcTorn, N: n} }

// Each act, with what it leads to written out: p's assertion holds, q's fails.
func TestRegressesWrittenOut(t *testing.T) {
	p, q := programOf(t, "0 assert 0 0;1 set 0 1"), programOf(t, "0 assert 0 1;1 set 0 1")
	if !alike(p, holds()) || !alike(q, fails()) {
		t.Error("programs:", p, q)
	}
	fails := []impl.Bug{{Kind: 12}}
	if impl.MaxActs != 40 || impl.AcSubmit != 1 || impl.AcCheck != 2 || impl.AcCommit != 3 || impl.AcCrash != 4 || impl.AcRecover != 5 || impl.AcTorn != 6 || impl.AcCompact != 7 {
		t.Error("constants of chapter 15")
	}
	x := newRun(t)
	wantRegress(t, "NewRegress", x.r, impl.Regress{Up: true})
	for i, row := range []struct {
		a                     impl.Act
		code                  int
		up, checked, has      bool
		bytes, entries, nodes int
		bugs, base            []impl.Bug
		hasBase               bool
	}{
		{act(2), 5, true, false, false, 0, 0, 0, nil, nil, false}, // no Program
		{act(3), 5, true, false, false, 0, 0, 0, nil, nil, false},
		{torn(9), 5, true, false, false, 0, 0, 0, nil, nil, false},
		{act(5), 17, true, false, false, 0, 0, 0, nil, nil, false},
		{act(7), 0, true, false, false, 0, 0, 0, nil, nil, false},
		{submitted(p), 0, true, false, true, 14, 0, 0, nil, nil, false},
		{act(3), 5, true, false, true, 14, 0, 0, nil, nil, false},                           // not checked yet
		{act(2), 0, true, true, true, 114, 4, 4, nil, nil, false},                           // entries of 26, 25, 25 and 24 bytes
		{act(2), 0, true, true, true, 114, 4, 0, nil, nil, false},                           // all is there
		{act(3), 0, true, true, true, 119, 4, 0, nil, nil, true},                            // of no bugs
		{submitted(q), 0, true, false, true, 133, 2, 0, nil, nil, true},                     // thread 0 is behind its assertion
		{act(3), 5, true, false, true, 133, 2, 0, nil, nil, true},                           // not checked any more
		{act(2), 0, true, true, true, 190, 4, 2, fails, nil, true},                          // entries of 29 and 28 bytes
		{act(7), 0, true, true, true, 139, 4, 2, fails, nil, true},                          // two versions, a commit, and four entries
		{act(3), 0, true, true, true, 147, 4, 2, fails, fails, true},                        // of one bug
		{submitted(q), 0, true, false, true, 161, 4, 0, nil, fails, true},                   // twice
		{act(2), 0, true, true, true, 161, 4, 0, fails, fails, true},                        // costs no node
		{act(5), 17, true, true, true, 161, 4, 0, fails, fails, true},                       // it is up
		{act(4), 0, false, false, false, 161, 0, 0, nil, nil, false},                        // down
		{act(2), 16, false, false, false, 161, 0, 0, nil, nil, false},                       // it is down
		{submitted(p), 16, false, false, false, 161, 0, 0, nil, nil, false},                 //
		{act(5), 0, true, false, true, 161, 4, 0, nil, fails, true},                         // known again
		{submitted(p), 0, true, false, true, 175, 2, 0, nil, fails, true},                   // 26 and 25 bytes are new
		{torn(40), 0, false, false, false, 215, 0, 0, nil, nil, false},                      // in the midst of the second one
		{act(7), 16, false, false, false, 215, 0, 0, nil, nil, false},                       //
		{act(5), 0, true, false, true, 201, 3, 0, nil, fails, true},                         // the first one is whole
		{act(2), 0, true, true, true, 201, 3, 0, nil, fails, true},                          // and it is that of the first state
		{act(7), 0, true, true, true, 111, 3, 0, nil, fails, true},                          // 14, 8, 14, and 26, 25 and 24
		{submitted(q), 0, true, false, true, 125, 2, 0, nil, fails, true},                   //
		{torn(60000), 0, false, false, false, 182, 0, 0, nil, nil, false},                   // all of it
		{act(5), 0, true, false, true, 182, 4, 0, nil, fails, true},                         //
		{torn(0), 0, false, false, false, 182, 0, 0, nil, nil, false},                       // nothing was pending
		{act(5), 0, true, false, true, 182, 4, 0, nil, fails, true},                         //
		{act(2), 0, true, true, true, 182, 4, 0, fails, fails, true},                        //
		{submitted(setProgram(0, 0, 0)), 0, true, false, true, 190, 1, 0, nil, fails, true}, // both threads are behind their ends
	} {
		code := x.do(row.a)
		r := x.r
		if code != row.code || r.Up != row.up || r.Checked != row.checked || r.Facts.Has != row.has || r.Facts.HasBase != row.hasBase {
			t.Errorf("row %d: %d, %s", i, code, toldRegress(r))
		}
		if len(r.Disk.Sure) != row.bytes || len(r.Facts.Memo.Entries) != row.entries || r.Nodes != row.nodes || !slices.Equal(r.Bugs, row.bugs) || !slices.Equal(r.Facts.BaseBugs, row.base) {
			t.Errorf("row %d: %d bytes, %s", i, len(r.Disk.Sure), toldRegress(r))
		}
	}
	x.end()
}

// regressVersions are a program of some states, versions near to it, and one that is
// far from it. Some of them differ at the beginning of a thread's code, so that
// entries of what is behind that are kept, and used.
func regressVersions(t *testing.T, seed int) []impl.Program {
	still := stillPrograms(t)
	programs := append([]impl.Program{still[0], still[1], still[4], still[5]}, closePrograms()...)
	p := programs[seed%9*(seed%31)%len(programs)]
	list := []impl.Program{p, programs[(seed*5+1)%4]}
	versions := versionsOf(p, seed)
	for i := range 3 {
		list = append(list, versions[(seed*7+i*5)%len(versions)])
	}
	for k := range 3 {
		if len(p.Code[k]) > 0 {
			q := cloned(p)
			q.Code[k][0] = []impl.Instr{{Op: 8, B: seed % 3}, {Op: 3, B: 1}, {Op: 6, A: 1}}[(seed+k)%3]
			list = append(list, q)
		}
	}
	return list
}

// nextAct goes by a plain rule, so that each run has the same ones.
func nextAct(next func(n int) int, up bool, versions []impl.Program) impl.Act {
	kind := []int{1, 1, 1, 1, 1, 2, 2, 2, 2, 2, 3, 3, 3, 4, 5, 6, 6, 6, 7, 7}[next(20)]
	if !up && next(2) > 0 {
		kind = 5
	}
	switch kind {
	case 1:
		return submitted(versions[next(len(versions))])
	case 6:
		return torn([]int{0, 1, next(100), next(1000), next(4000), 59999, 60000}[next(7)])
	}
	return act(kind)
}

func fewOf(t *testing.T, few int, count map[string]int, names ...string) {
	t.Helper()
	for _, name := range names {
		if count[name] < few {
			t.Errorf("hardly any %s: %v", name, count)
		}
	}
}

// The theorem of regressions, over long runs of all acts in any order.
func TestRegressesOfManyActs(t *testing.T) {
	count := map[string]int{}
	for seed := range 45 {
		versions := regressVersions(t, seed)
		state := uint32(seed)
		next := func(n int) int {
			state = state*1664525 + 1013904223
			return int(state>>8) % n
		}
		x := newRun(t)
		for range 40 {
			a := nextAct(next, x.r.Up, versions)
			was := x.r
			code := x.do(a)
			count[fmt.Sprint(a.Kind, " ", impl.CodeWord(code))]++
			if a.Kind == 2 && code == 0 {
				switch fresh, _, _ := impl.CheckFresh(x.r.Facts.Program); {
				case x.r.Nodes == 0:
					count["nothing to do"]++
				case x.r.Nodes < fresh.Nodes:
					count["used again"]++
				}
			}
			if a.Kind == 5 && code == 0 && len(x.r.Disk.Sure) < len(was.Disk.Sure) {
				count["torn"]++
			}
			if a.Kind == 1 && code == 0 && len(x.r.Facts.Memo.Entries) > 0 {
				count["kept"]++
			}
			if a.Kind == 7 && code == 0 && len(x.r.Disk.Sure) < len(was.Disk.Sure) {
				count["smaller"]++
			}
			if !x.r.Up || len(x.acts)%3 > 0 {
				continue
			}
			if back := x.after(act(4), act(5)); !sameFacts(back.r.Facts, x.r.Facts) { // all that was told is known
				t.Errorf("seed %d: behind a crash %s, not %s", seed, toldFacts(back.r.Facts), toldFacts(x.r.Facts))
			}
		}
		x.end()
	}
	fewOf(t, 10, count, "1 ok", "1 down", "2 ok", "2 none", "2 down", "3 ok", "3 none", "3 down", "4 ok", "4 down", "5 ok", "5 up", "6 ok", "6 none", "6 down", "7 ok", "7 down",
		"nothing to do", "used again", "torn", "kept", "smaller")
}

// lead has a run of acts that all can be done.
func lead(t *testing.T, acts ...impl.Act) *regressRun {
	t.Helper()
	x := newRun(t)
	for _, a := range acts {
		if code := x.do(a); code != 0 {
			t.Errorf("an act of kind %d: %d", a.Kind, code)
		}
	}
	return x
}

// after has one act more; the run stays as it was.
func (x *regressRun) after(acts ...impl.Act) *regressRun {
	x.t.Helper()
	y := *x
	y.acts, y.codes = slices.Clone(x.acts), slices.Clone(x.codes)
	for _, a := range acts {
		y.do(a)
	}
	return &y
}

// The theorem of crashes: a check that is torn at each number of bytes. What was
// known is known, and of its entries a beginning, all that are whole.
func TestChecksTornAtEveryByte(t *testing.T) {
	p := programOf(t, "0 lock 0;0 assert 0 1;0 unlock 0;1 lock 0;1 unlock 0")
	q := programOf(t, "0 lock 0;0 assert 0 1;0 unlock 0;1 lock 0;1 unlock 1")
	for i, ahead := range []*regressRun{
		lead(t, submitted(p)),
		lead(t, submitted(p), act(2), act(3), submitted(q)),
		lead(t, submitted(q), act(2), act(3), submitted(p), act(7)),
		lead(t, submitted(p), torn(300), act(5), submitted(q)),
		lead(t, submitted(p), act(2), submitted(p)),
	} {
		was, checked := ahead.r, ahead.after(act(2))
		fresh := newOnes(was.Facts.Memo, checked.r.Facts.Memo.Entries)
		pending := checked.r.Disk.Sure[len(was.Disk.Sure):]
		if (len(fresh) == 0) != (i == 4) || len(was.Facts.Memo.Entries) == 0 != (i == 0) {
			t.Errorf("run %d: %d new entries, %d kept", i, len(fresh), len(was.Facts.Memo.Entries))
		}
		whole, end := 0, 0
		for n := range len(pending) + 3 {
			if whole < len(fresh) && end+len(plainRecordText(entryRecord(fresh[whole]))) == n {
				whole, end = whole+1, n
			}
			name := fmt.Sprintf("run %d, torn at %d", i, n)
			down := ahead.after(torn(n))
			if want := was.Disk.Sure + pending[:min(n, len(pending))]; down.r.Disk.Sure != want || down.r.Up {
				t.Errorf("%s: %s", name, toldRegress(down.r))
			}
			back := down.after(act(5))
			known := clonedFacts(was.Facts)
			for _, e := range fresh[:whole] {
				known.Memo, _ = impl.PutEntry(known.Memo, e)
			}
			wantRegress(t, name, back.r, impl.Regress{Up: true, Disk: impl.Disk{Sure: was.Disk.Sure + pending[:end]}, Facts: known})
			again := back.after(act(2))
			if !slices.Equal(again.r.Bugs, checked.r.Bugs) || again.r.Nodes > checked.r.Nodes {
				t.Errorf("%s: then %v, %d nodes", name, again.r.Bugs, again.r.Nodes)
			}
			if n%7 == i {
				again.after(act(3), submitted(q), act(2), act(7), act(4), act(5), act(2)).end()
			}
		}
		if whole != len(fresh) {
			t.Errorf("run %d: %d entries of %d", i, whole, len(fresh))
		}
		if all := ahead.after(torn(60000)); all.r.Disk != checked.r.Disk {
			t.Errorf("run %d: torn behind its end: %s", i, sizes(all.r.Disk))
		}
	}
}

// A version that is checked behind another one finds what it finds alone, by no more
// nodes: entries that it does not touch are used again, those that it touches are not.
func TestVersionsCheckedBehindOneAnother(t *testing.T) {
	count := map[string]int{}
	for seed := range 40 {
		versions := regressVersions(t, seed)
		x := lead(t, submitted(versions[0]), act(2), act(3))
		first := x.r
		for _, q := range versions[1:] {
			y := x.after(submitted(q))
			kept := len(y.r.Facts.Memo.Entries)
			y.do(act(2))
			fresh, _, code := impl.CheckFresh(q)
			if y.codes[len(y.codes)-1] != 0 || code != 0 || !slices.Equal(y.r.Bugs, fresh.Bugs) || y.r.Nodes > fresh.Nodes || !alike(y.r.Facts.Base, versions[0]) || !slices.Equal(y.r.Facts.BaseBugs, first.Bugs) {
				t.Errorf("seed %d: %s, and from nothing %v, %d", seed, toldRegress(y.r), fresh, code)
			}
			switch {
			case y.r.Nodes == 0:
				count["all used"]++
			case y.r.Nodes == fresh.Nodes:
				count["none used"]++
			default:
				count["some used"]++
			}
			if kept > 0 && kept < len(first.Facts.Memo.Entries) {
				count["some kept"]++
			}
			if !slices.Equal(first.Bugs, y.r.Bugs) {
				count["other bugs"]++
			}
			if kept+y.r.Nodes > fresh.Nodes {
				count["more than all"]++
			}
		}
	}
	fewOf(t, 10, count, "all used", "none used", "some used", "some kept", "other bugs", "more than all")
}

// A version that is handed in twice costs no node, whatever came between.
func TestVersionsThatAreHandedInTwice(t *testing.T) {
	asked := 0
	for seed := range 24 {
		for _, p := range regressVersions(t, seed)[:4] {
			x := lead(t, submitted(p))
			if x.do(act(2)) != 0 {
				continue
			}
			asked++
			first := x.r
			for i, between := range [][]impl.Act{nil, {act(3)}, {act(7)}, {act(4), act(5)}, {submitted(p)}, {act(3), act(7), act(4), act(5)}} {
				y := x.after(append(between, submitted(p), act(2))...)
				if y.r.Nodes != 0 || !slices.Equal(y.r.Bugs, first.Bugs) || !sameEntries(y.r.Facts.Memo.Entries, first.Facts.Memo.Entries) {
					t.Errorf("seed %d, way %d: %s", seed, i, toldRegress(y.r))
				}
			}
		}
	}
	if asked < 60 {
		t.Error("hardly any versions:", asked)
	}
}

// Compacting loses nothing: what is known, and what was found, and what comes of it.
func TestCompactingLosesNothing(t *testing.T) {
	smaller := 0
	for seed := range 24 {
		versions := regressVersions(t, seed)
		x := newRun(t)
		for i := range 7 {
			for _, a := range [][]impl.Act{nil, {submitted(versions[i%len(versions)])}, {act(2)}, {act(3)}, {submitted(versions[0])}, {torn(200), act(5)}, {act(2)}}[i] {
				x.do(a)
			}
			y := x.after(act(7))
			if y.codes[len(y.codes)-1] != 0 || !y.r.Up || y.r.Checked != x.r.Checked || !sameFacts(y.r.Facts, x.r.Facts) || !slices.Equal(y.r.Bugs, x.r.Bugs) || y.r.Nodes != x.r.Nodes {
				t.Errorf("seed %d, %d: %s, not %s", seed, i, toldRegress(y.r), toldRegress(x.r))
			}
			if len(y.r.Disk.Sure) < len(x.r.Disk.Sure) {
				smaller++
			}
			if again := y.after(act(7)); !sameRegress(again.r, y.r) {
				t.Errorf("seed %d, %d, once more: %s", seed, i, toldRegress(again.r))
			}
			rest := []impl.Act{act(3), submitted(versions[1]), act(2), act(4), act(5), act(2)}
			one, other := x.after(rest...).r, y.after(rest...).r
			if other.Disk = one.Disk; !sameRegress(one, other) {
				t.Errorf("seed %d, %d, then: %s, not %s", seed, i, toldRegress(other), toldRegress(one))
			}
		}
	}
	if smaller < 40 {
		t.Error("hardly any logs are smaller:", smaller)
	}
}

// Logs whose facts are told by hand: 0 is behind thread 0's first place, and so on.
func TestFoldsByHand(t *testing.T) {
	p, q := programOf(t, "0 assert 0 0;1 set 0 1"), programOf(t, "0 assert 0 1;1 set 0 1")
	vp, vq := versionRecord(p), versionRecord(q)
	in, out := impl.Entry{Key: newKey, Foot: []int{0, 8, 16}}, impl.Entry{Key: greatestOfKey, Foot: []int{1, 8, 22}}
	over, bare := impl.Entry{Key: newKey, Bugs: []impl.Bug{{Kind: 14}}, Foot: []int{5}}, impl.Entry{Key: "100000000000000"}
	ein, eout, eover, ebare := entryRecord(in), entryRecord(out), entryRecord(over), entryRecord(bare)
	bug := []impl.Bug{{Kind: 13, Thread: 2, Pc: 5}}
	c, d := commitRecord(bug), commitRecord(nil)
	has := func(p impl.Program, list ...impl.Entry) impl.Facts {
		return impl.Facts{Has: true, Program: p, Memo: impl.Memo{Entries: list}}
	}
	base := func(f impl.Facts, p impl.Program, bugs []impl.Bug) impl.Facts {
		f.HasBase, f.Base, f.BaseBugs = true, p, bugs
		return f
	}
	for i, row := range []struct {
		list []impl.Record
		want impl.Facts
	}{
		{nil, impl.Facts{}},
		{[]impl.Record{}, impl.Facts{}},
		{[]impl.Record{ein, c, eout, d}, impl.Facts{}}, // ahead of any version
		{[]impl.Record{vp}, has(p)},
		{[]impl.Record{ein, c, vp}, has(p)},
		{[]impl.Record{c, vp, ein}, has(p, in)},
		{[]impl.Record{vp, eout, ein}, has(p, in, out)}, // by their keys
		{[]impl.Record{vp, ein, eover}, has(p, over)},
		{[]impl.Record{vp, ein, eover, ein}, has(p, in)},
		{[]impl.Record{vp, ein, eout, vp}, has(p, in, out)},       // nothing is changed
		{[]impl.Record{vp, ein, eout, vq}, has(q, out)},           // 0 is
		{[]impl.Record{vp, ein, eout, vq, vp}, has(p, out)},       // what is gone does not come back
		{[]impl.Record{vp, eover, ebare, vq}, has(q, over, bare)}, // a foot without it, and none
		{[]impl.Record{vp, vq, ein}, has(q, in)},                  // it came behind the change
		{[]impl.Record{vp, ein, vq, ein}, has(q, in)},             // and here again
		{[]impl.Record{vp, ein, eover, vq}, has(q, over)},         // the one put last counts
		{[]impl.Record{vp, eover, ein, vq}, has(q)},               //
		{[]impl.Record{vp, c}, base(has(p), p, bug)},              //
		{[]impl.Record{vp, d}, base(has(p), p, nil)},              // a base without bugs
		{[]impl.Record{vp, c, d}, base(has(p), p, nil)},           // the last commit counts
		{[]impl.Record{vp, c, vq}, base(has(q), p, bug)},          //
		{[]impl.Record{vp, c, vq, d}, base(has(q), q, nil)},       //
		{[]impl.Record{vp, c, vq, vp, ein}, base(has(p, in), p, bug)},
		{[]impl.Record{c, vp, vq, ein, c}, base(has(q, in), q, bug)},
		{[]impl.Record{vp, ein, c, eout, vq, ebare}, base(has(q, bare, out), p, bug)},
	} {
		f := wantFold(t, fmt.Sprint("row ", i), row.list)
		if !sameFacts(f, row.want) {
			t.Errorf("row %d: %s, not %s", i, toldFacts(f), toldFacts(row.want))
		}
		log, _ := logOf(row.list)
		wantRegress(t, fmt.Sprint("row ", i), recovered(t, log), impl.Regress{Up: true, Disk: impl.Disk{Sure: log}, Facts: row.want})
	}
}

// recovered is what a log that is on the disk is read to.
func recovered(t *testing.T, sure string) impl.Regress {
	t.Helper()
	r, code := impl.ActDo(impl.Regress{Disk: impl.Disk{Sure: sure}}, act(impl.AcRecover))
	if code != 0 {
		t.Error("AcRecover:", code)
	}
	return r
}

func TestFoldsOfMixedRecords(t *testing.T) {
	kept, gone := 0, 0
	for seed := range 60 {
		versions := regressVersions(t, seed)
		var list []impl.Record
		for i := range 3 + seed {
			switch (i*7 + seed*i*i) % 10 {
			case 0, 1:
				list = append(list, versionRecord(versions[(i*5+seed)%len(versions)]))
			case 2:
				list = append(list, commitRecord(rightBugLists()[(i*11+seed)%100]))
			default:
				list = append(list, entryRecord(someEntry(manyKeys(20)[(i*3)%20], (i+seed*3)%9)))
			}
		}
		was := 0
		for n := range len(list) + 1 {
			f := wantFold(t, fmt.Sprintf("seed %d, %d records", seed, n), list[:n])
			if n > 0 && list[n-1].Kind == 1 && was > 0 {
				kept += len(f.Memo.Entries)
				gone += was - len(f.Memo.Entries)
			}
			was = len(f.Memo.Entries)
		}
	}
	wantFold(t, "mixed ones", mixedRecords())
	for i, list := range someLogs() {
		wantFold(t, fmt.Sprint("log ", i), list)
	}
	if kept < 100 || gone < 100 {
		t.Error("hardly any entries are kept, or gone:", kept, gone)
	}
}

// An entry is put if its key is there, or fewer than MaxStates are.
func TestFoldsAtTheBoundOfEntries(t *testing.T) {
	p := setProgram(1, 2, 0)
	list := []impl.Record{versionRecord(p)}
	for _, e := range foreign(2000) {
		list = append(list, entryRecord(e))
	}
	one := impl.Entry{Key: newKey, Foot: []int{1}}
	again := impl.Entry{Key: "006100000000000", Bugs: []impl.Bug{{Kind: 14}}}
	for i, row := range []struct {
		list []impl.Record
		n    int
		key  string
		want impl.Entry
		code int
	}{
		{list, 2000, newKey, impl.Entry{}, impl.ErrNone},
		{append(slices.Clone(list[:2000]), entryRecord(one)), 2000, newKey, one, 0},
		{append(slices.Clone(list[:1999]), entryRecord(one)), 1999, newKey, one, 0},
		{append(slices.Clone(list), entryRecord(one)), 2000, newKey, impl.Entry{}, impl.ErrNone},
		{append(slices.Clone(list), entryRecord(one), entryRecord(again)), 2000, again.Key, again, 0},
		{append(slices.Clone(list), entryRecord(one), versionRecord(setProgram(1, 2, 1)), entryRecord(one)), 2000, newKey, impl.Entry{}, impl.ErrNone},
		{append(slices.Clone(list), entryRecord(again), versionRecord(setProgram(2, 2, 0)), entryRecord(one)), 2000, again.Key, again, 0},
		{append(slices.Clone(list), versionRecord(programOf(t, "0 add 0 1")), entryRecord(one)), 1, newKey, one, 0}, // the place of all feet is changed
	} {
		f := wantFold(t, fmt.Sprint("row ", i), row.list)
		e, code := impl.FindEntry(f.Memo, row.key)
		if len(f.Memo.Entries) != row.n || !sameEntry(e, row.want) || code != row.code {
			t.Errorf("row %d: %d entries, %v, %d", i, len(f.Memo.Entries), e, code)
		}
	}
	log, _ := logOf(append(slices.Clone(list), entryRecord(one)))
	r := recovered(t, log)
	wantRegress(t, "a log of too many entries", r, plainRegress{up: true, sure: log}.regress())
	// a check would put one more of them, unless its own entry is there
	if next, code := impl.ActDo(r, act(impl.AcCheck)); code != impl.ErrBudget || !sameRegress(next, r) {
		t.Errorf("AcCheck with all entries: %d, %s", code, toldRegress(next))
	}
	if next, code := impl.ActDo(r, torn(7)); code != impl.ErrBudget || !sameRegress(next, r) {
		t.Errorf("AcTorn with all entries: %d, %s", code, toldRegress(next))
	}
}

func TestFoldsOfWrongLists(t *testing.T) {
	wrong := func(list []impl.Record, want int) {
		t.Helper()
		if f, code := impl.FoldLog(list); !sameFacts(f, impl.Facts{}) || code != want {
			t.Errorf("FoldLog of %d records is %s, %d, not %d", len(list), toldFacts(f), code, want)
		}
	}
	right := append([]impl.Record{versionRecord(setProgram(1, 0, 2))}, mixedRecords()[:9]...)
	strange := []impl.Record{{}, {Kind: 4, Text: "\x00"}, {Kind: -1, Text: "\x00"}, {Kind: 3}, {Kind: 3, Text: "\x01\x00"}, {Kind: 1, Text: newKey + "\x01\x00"}, {Kind: 2, Text: "\x03\x00\x00\x00"},
		{Kind: 2, Text: newKey + "\x01\x01"}, {Kind: 2, Text: long(1000)}, {Kind: 3, Text: long(impl.MaxText + 1)}, {Kind: 1, Text: plainRecordText(right[0])}, {Kind: 3, Text: plainCommit([]impl.Bug{{Kind: 14}, {Kind: 12}})}}
	for _, r := range strange {
		for at := range len(right) + 1 { // ahead of any version too, where it would say nothing
			wrong(slices.Insert(slices.Clone(right), at, r), impl.ErrBad)
		}
		wrong([]impl.Record{r}, impl.ErrBad)
		wrong([]impl.Record{r, right[0], r}, impl.ErrBad)
		wrong(append(slices.Repeat(right[:1], 4095), r), impl.ErrBad)
		wrong(append(slices.Repeat(right[:1], 4096), r), impl.ErrLong)
		wrong(slices.Repeat([]impl.Record{r}, 4097), impl.ErrLong)
	}
	wrong(slices.Repeat(right[:1], 4097), impl.ErrLong)
	wrong(make([]impl.Record, 4096), impl.ErrBad)
	wrong(make([]impl.Record, 70000), impl.ErrLong)
	wantFold(t, "as long as may be", slices.Repeat(right[:4], 1024))
}

// A log may hold more records than a list that is handed in.
func TestRegressesOfManyRecords(t *testing.T) {
	version, commit := plainRecordText(versionRecord(setProgram(0, 0, 0))), plainRecordText(smallestRecord())
	for i, log := range []string{strings.Repeat(commit, 12000), version + strings.Repeat(commit, 11990), strings.Repeat(version, 7500), strings.Repeat(version+commit, 4600)} {
		want := impl.Facts{}
		if i > 0 {
			want = impl.Facts{Has: true, Program: setProgram(0, 0, 0)}
		}
		if i%2 == 1 {
			want.HasBase, want.Base = true, setProgram(0, 0, 0)
		}
		r := recovered(t, log+"torn"[:min(4, 60000-len(log))])
		wantRegress(t, fmt.Sprint("many records ", i), r, impl.Regress{Up: true, Disk: impl.Disk{Sure: log}, Facts: want})
		x := runFrom(t, log)
		x.do(act(impl.AcCompact))
		x.do(act(impl.AcCheck))
		x.do(act(impl.AcCommit))
	}
}

// filler has records that take just n bytes. Ahead of any version they say nothing.
func filler(n int) string {
	great := plainRecordText(greatestRecord())
	log := strings.Repeat(great, max(n/len(great)-1, 0))
	n -= len(log)
	for eights := range 5 {
		if rest := n - 8*eights; rest >= 0 && rest%5 == 0 {
			return log + strings.Repeat(plainRecordText(commitRecord([]impl.Bug{{Kind: 14}})), eights) + strings.Repeat(plainRecordText(smallestRecord()), rest/5)
		}
	}
	panic(fmt.Sprint("no commits take so many bytes: ", n))
}

// filled has records at its end, and commits ahead of them, so that it leaves just
// so much room.
func filled(room int, list ...impl.Record) string {
	log, _ := logOf(list)
	return filler(60000-room-len(log)) + log
}

// The next record has just room, or is a byte too long.
func TestActsOnDisksThatAreNearlyFull(t *testing.T) {
	p, q := programOf(t, "0 assert 0 1;1 unlock 0"), programOf(t, "0 assert 0 1;1 lock 0;1 lock 0;2 set 1 1")
	_, m, _ := impl.CheckFresh(p)
	all := []impl.Record{versionRecord(p)}
	for _, e := range m.Entries {
		all = append(all, entryRecord(e))
	}
	found := []impl.Bug{{Kind: 12}, {Kind: 13, Thread: 1}}
	want := func(name string, code, want int) {
		t.Helper()
		if code != want {
			t.Errorf("%s: %d, not %d", name, code, want)
		}
	}
	for _, more := range []int{-9, -1, 0, 1, 2, 9} {
		code := impl.OK
		if more < 0 {
			code = impl.ErrFull
		}
		name := fmt.Sprint("room for ", more, " more")
		x := runFrom(t, filled(len(plainRecordText(versionRecord(q)))+more, all...))
		want(name, x.do(submitted(q)), code)
		x = runFrom(t, filled(len(plainRecordText(commitRecord(found)))+more, all...))
		want(name, x.do(act(2)), impl.OK) // nothing is new
		want(name, x.do(act(3)), code)
		want(name, x.do(act(2)), impl.OK)
		want(name, x.do(act(7)), impl.OK)
		want(name, x.do(act(3)), impl.OK)
	}
	x := runFrom(t, filled(0, all...))
	want("no room", x.do(submitted(q)), impl.ErrFull)
	want("no room", x.do(act(3)), impl.ErrNone)
	want("no room", x.do(act(2)), impl.OK)
	want("no room", x.do(submitted(q)), impl.ErrFull) // still checked
	want("no room", x.do(act(3)), impl.ErrFull)
	want("no room", x.do(act(7)), impl.OK)
	want("no room", x.do(submitted(q)), impl.OK)
}

// Of a check's entries only the first have room; a later one that is short is not
// laid down either.
func TestChecksThatFillTheDisk(t *testing.T) {
	for i, lines := range []string{"0 assert 0 1;1 unlock 0;2 set 0 1", "0 lock 0;0 lock 1;0 unlock 1;1 lock 1;1 lock 0"} {
		p := programOf(t, lines)
		whole := lead(t, submitted(p), act(2))
		fresh := whole.r.Facts.Memo.Entries
		_, ends := logOf(plainCompact(impl.Facts{Memo: whole.r.Facts.Memo}))
		for _, n := range []int{0, 1, 2, len(fresh) / 2, len(fresh) - 1, len(fresh)} {
			for _, more := range []int{-1, 0, 20} {
				name := fmt.Sprintf("program %d, room for %d entries and %d", i, n, more)
				room := ends[n] + more
				if room < 0 {
					continue
				}
				laid := 0
				for laid < len(fresh) && ends[laid+1] <= room {
					laid++
				}
				x := runFrom(t, filled(room, versionRecord(p)))
				used := len(x.r.Disk.Sure)
				down := x.after(torn(60000))
				if code := x.do(act(2)); code != 0 || !slices.Equal(x.r.Bugs, whole.r.Bugs) || x.r.Nodes != len(fresh) || !x.r.Checked {
					t.Errorf("%s: %d, %s", name, code, toldRegress(x.r))
				}
				if !sameEntries(x.r.Facts.Memo.Entries, fresh[:laid]) || len(x.r.Disk.Sure) != used+ends[laid] {
					t.Errorf("%s: %d entries, not %d", name, len(x.r.Facts.Memo.Entries), laid)
				}
				if down.r.Disk != x.r.Disk || down.r.Up || down.after(act(5)).r.Disk != x.r.Disk {
					t.Errorf("%s: torn it has %s", name, sizes(down.r.Disk))
				}
				x.do(act(2))
				x.do(act(7))
			}
		}
	}
}

// entriesOf take just n bytes, of states that no schedule leads to.
func entriesOf(t *testing.T, n int) []impl.Record {
	t.Helper()
	var list []impl.Record
	for i := 0; n > 0; i++ {
		size := 42
		if n < 2*size {
			size = (n + 1) / 2
		}
		if n <= 42 {
			size = n
		}
		r := entryRecord(impl.Entry{Key: fmt.Sprintf("006%04d00000000", i), Foot: everyItem()[:max(size-21, 0)]})
		list, n = append(list, r), n-len(plainRecordText(r))
	}
	if n != 0 || len(list) > 2000 {
		t.Fatal("entries take", n, "bytes more or less, by", len(list))
	}
	return list
}

// What is compacted is longer than it was if the base is the last version.
func TestCompactingOfFullDisks(t *testing.T) {
	for i, p := range []impl.Program{setProgram(0, 0, 0), setProgram(6, 6, 6)} {
		version := plainRecordText(versionRecord(p))
		for _, list := range [][]impl.Bug{nil, bugsFrom(i, 30)} {
			commit := plainRecordText(commitRecord(list))
			for _, more := range []int{-1, 0, 1, len(version)} {
				entries, _ := logOf(entriesOf(t, 60000-2*len(version)-len(commit)+more))
				name := fmt.Sprintf("program %d, %d bugs, %d bytes too long", i, len(list), more)
				plain := plainRegress{up: true, sure: version + commit + entries}
				next, _, code := wantAct(t, name, recovered(t, plain.sure), plain, act(7))
				if (code == impl.ErrFull) != (more > 0) || code == 0 && next.Disk.Sure != version+commit+version+entries {
					t.Errorf("%s: %d, %s", name, code, sizes(next.Disk))
				}
				if more <= 0 {
					other := plainRegress{up: true, sure: next.Disk.Sure}
					wantAct(t, name+", once more", next, other, act(7))
				}
			}
		}
		alone, _ := logOf(entriesOf(t, 60000-len(version))) // without a base it is as long as it was
		plain := plainRegress{up: true, sure: version + alone}
		if next, _, code := wantAct(t, "full", recovered(t, plain.sure), plain, act(7)); code != 0 || next.Disk.Sure != plain.sure {
			t.Errorf("program %d, full: %d, %s", i, code, sizes(next.Disk))
		}
	}
}

// A check of too many states, or of a program that is not there, is answered as it
// was, and stays up.
func TestChecksOfRegressesThatCannotBe(t *testing.T) {
	small := programOf(t, "0 assert 0 1")
	for i, p := range beyondPrograms(t) {
		x := lead(t, submitted(small), act(2), act(3), submitted(p))
		for _, a := range []impl.Act{act(2), torn(0), torn(60000)} {
			if code := x.do(a); code != impl.ErrBudget || !x.r.Up {
				t.Errorf("program %d: an act of kind %d: %d", i, a.Kind, code)
			}
		}
		x.do(act(3))
		x.do(act(7))
		x.do(submitted(small))
		if x.do(act(2)) != 0 {
			t.Errorf("program %d: then %s", i, toldRegress(x.r))
		}
		x.end()
	}
	for lines, n := range boundPrograms() {
		x := lead(t, submitted(programOf(t, lines)))
		code := x.do(act(2))
		if (code == 0) != (n <= 2000) || code != 0 && code != impl.ErrBudget || code == 0 && x.r.Nodes != n {
			t.Errorf("%d states: %d, %d nodes", n, code, x.r.Nodes)
		}
	}
}

// One that is down does nothing but recover, and one that is up does not.
func TestActsOfWhatIsUpOrDown(t *testing.T) {
	p := programOf(t, "0 assert 0 1;1 unlock 0")
	for i, ahead := range []*regressRun{lead(t, act(4)), lead(t, submitted(p), act(4)), lead(t, submitted(p), torn(70)), lead(t, submitted(p), act(2), act(3), act(4)), lead(t, submitted(p), act(2), submitted(p), torn(0))} {
		for _, a := range []impl.Act{submitted(p), submitted(setProgram(6, 6, 6)), act(2), act(3), act(4), torn(0), torn(50), torn(60000), act(7)} {
			if code := ahead.after(a).codes[len(ahead.codes)]; code != impl.ErrDown {
				t.Errorf("run %d: an act of kind %d: %d", i, a.Kind, code)
			}
		}
		up := ahead.after(act(5))
		if up.codes[len(ahead.codes)] != 0 || !up.r.Up || up.do(act(5)) != impl.ErrUp {
			t.Errorf("run %d: %s", i, toldRegress(up.r))
		}
		up.after(act(4), act(5), act(2)).end()
	}
	full := plainRegress{sure: marked(60000, "x")} // of which nothing is a log
	for _, a := range []impl.Act{submitted(p), act(2), act(3), act(4), torn(9), act(7)} {
		if _, _, code := wantAct(t, "a full disk", full.regress(), full, a); code != impl.ErrDown {
			t.Errorf("a full disk, an act of kind %d: %d", a.Kind, code)
		}
	}
	if next, _, code := wantAct(t, "a full disk", full.regress(), full, act(5)); code != 0 || !sameRegress(next, impl.NewRegress()) {
		t.Errorf("a full disk that recovers: %d, %s", code, toldRegress(next))
	}
}

// wrongActs are of no kind, or hold what they have no use for, or what is not right.
func wrongActs() []impl.Act {
	p := setProgram(1, 0, 2)
	var all []impl.Act
	for _, kind := range []int{math.MinInt, -1 << 32, -7, -1, 0, 8, 9, 255, 257, 1<<32 + 1, 1<<32 + 6, math.MaxInt} {
		all = append(all, act(kind), impl.Act{Kind: kind, Program: p}, impl.Act{Kind: kind, N: 1})
	}
	for kind := 1; kind <= 7; kind++ {
		for _, n := range []int{math.MinInt, -60000, -1, 60001, 1 << 32, math.MaxInt} {
			all = append(all, impl.Act{Kind: kind, N: n}, impl.Act{Kind: kind, N: n, Program: p})
		}
		if kind != 6 {
			all = append(all, impl.Act{Kind: kind, N: 1, Program: p}, impl.Act{Kind: kind, N: 60000, Program: p}, impl.Act{Kind: kind, N: 1})
		}
		if kind != 1 {
			for _, q := range []impl.Program{p, setProgram(0, 0, 0), setProgram(6, 6, 6), {Code: make([][]impl.Instr, 1)}, {Code: make([][]impl.Instr, 4)}, {Code: [][]impl.Instr{setting(7)}}} {
				all = append(all, impl.Act{Kind: kind, Program: q}, impl.Act{Kind: kind, Program: q, N: 5})
			}
		}
	}
	for _, q := range wrongPrograms() {
		all = append(all, submitted(q))
	}
	return append(all, impl.Act{Kind: 1, N: -1}, impl.Act{Kind: 1, N: 3, Program: impl.Program{Code: make([][]impl.Instr, 2)}})
}

func TestActsThatAreRight(t *testing.T) {
	var right []impl.Act
	for _, p := range rightPrograms() {
		right = append(right, submitted(p))
	}
	for _, n := range []int{0, 1, 2, 59999, 60000} {
		right = append(right, torn(n), impl.Act{Kind: 6, N: n, Program: impl.Program{Code: [][]impl.Instr{}}})
	}
	for kind := 2; kind <= 7; kind++ {
		right = append(right, act(kind), impl.Act{Kind: kind, Program: impl.Program{Code: [][]impl.Instr{}}}) // empty is nil
	}
	for i, a := range right {
		if !impl.ActOK(a) {
			t.Errorf("right act %d: %v", i, a)
		}
	}
}

func TestActsThatAreWrong(t *testing.T) {
	p := programOf(t, "0 assert 0 1")
	states := []impl.Regress{impl.NewRegress(), lead(t, submitted(p), act(2)).r, lead(t, submitted(p), act(4)).r, {Disk: impl.Disk{Sure: "torn"}}, {}}
	for i, a := range wrongActs() {
		if impl.ActOK(a) {
			t.Errorf("wrong act %d: %d, %d, %s", i, a.Kind, a.N, brief(a.Program))
		}
		for _, r := range states { // bad comes ahead of down and up
			if next, code := impl.ActDo(r, a); code != impl.ErrBad || !sameRegress(next, impl.Regress{}) {
				t.Errorf("ActDo of wrong act %d: %d, %s", i, code, toldRegress(next))
			}
		}
		for at := range 4 {
			list := slices.Insert([]impl.Act{submitted(p), act(2), act(5)}, at, a)
			wantNoRun(t, list, impl.ErrBad)
		}
		wantNoRun(t, append(slices.Repeat([]impl.Act{act(2)}, 39), a), impl.ErrBad)
		wantNoRun(t, append(slices.Repeat([]impl.Act{act(2)}, 40), a), impl.ErrMany)
	}
}

func wantNoRun(t *testing.T, list []impl.Act, want int) {
	t.Helper()
	r, codes, code := impl.ActsRun(list)
	if code != want || len(codes) != 0 || !sameRegress(r, impl.Regress{}) {
		t.Errorf("ActsRun of %d acts: %d, not %d, %v, %s", len(list), code, want, codes, toldRegress(r))
	}
}

func TestRunsAtTheBoundOfActs(t *testing.T) {
	p := programOf(t, "0 assert 0 1;2 set 0 1")
	for _, n := range []int{0, 1, 39, 40} {
		x := newRun(t)
		for i := range n {
			x.do([]impl.Act{submitted(p), act(2), act(3), torn(30), act(5), act(5), act(7), act(4), act(2)}[i%9])
		}
		x.end()
	}
	for _, none := range [][]impl.Act{nil, {}} {
		r, codes, code := impl.ActsRun(none)
		if len(codes) != 0 || code != 0 {
			t.Errorf("ActsRun of no act: %v, %d", codes, code)
		}
		wantRegress(t, "ActsRun of no act", r, impl.NewRegress())
	}
	for _, n := range []int{41, 42, 1000, 4096} {
		wantNoRun(t, slices.Repeat([]impl.Act{act(2)}, n), impl.ErrMany)
		wantNoRun(t, make([]impl.Act, n), impl.ErrMany) // many comes ahead of bad
	}
	for _, n := range []int{4097, 70000} {
		wantNoRun(t, slices.Repeat([]impl.Act{act(2)}, n), impl.ErrLong)
		wantNoRun(t, make([]impl.Act, n), impl.ErrLong)
	}
}

// plainLead is what acts lead to by the second writing.
func plainLead(acts ...impl.Act) impl.Regress {
	r := plainRegress{up: true}
	for _, a := range acts {
		r, _ = r.act(a)
	}
	return r.regress()
}

// holds and fails are two versions: the assertion of the one holds, of the other not.
func holds() impl.Program {
	return impl.Program{Code: [][]impl.Instr{{{Op: 8}}, {{Op: 3, B: 1}}, nil}}
}

func fails() impl.Program {
	return impl.Program{Code: [][]impl.Instr{{{Op: 8, B: 1}}, {{Op: 3, B: 1}}, nil}}
}

// rightRegresses are up and down, checked or not, with torn disks and full ones, and
// some say what no act led to.
func rightRegresses() []impl.Regress {
	p, q := holds(), fails()
	all := []impl.Regress{impl.NewRegress(), {}, {Disk: impl.Disk{Sure: "torn"}}, {Disk: impl.Disk{Sure: marked(60000, "x")}}}
	for _, acts := range [][]impl.Act{{submitted(p)}, {submitted(p), act(2)}, {submitted(q), act(2)}, {submitted(q), act(2), act(3)}, {submitted(q), act(2), act(3), submitted(p)}, {submitted(q), act(2), act(3), submitted(p), act(2), act(7)}, {submitted(p), torn(60)}, {submitted(p), act(2), act(4)},
		{submitted(p), act(2), act(4), act(5)}, {submitted(p), act(2), act(4), act(5), act(2)}} {
		all = append(all, plainLead(acts...))
	}
	r := clonedRegress(all[5])
	r.Nodes, r.Bugs = 2000, bugsFrom(7, 30) // not what a check finds, but right
	log, _ := logOf(mixedRecords()[:60])
	return append(all, r, plainRegress{up: true, sure: log}.regress(), plainRegress{up: true, sure: filled(0, versionRecord(p))}.regress())
}

// wrongRegresses are wrong in one thing each, and some in several.
func wrongRegresses() []impl.Regress {
	var all []impl.Regress
	for _, r := range rightRegresses() {
		change := func(turn func(r *impl.Regress)) {
			q := clonedRegress(r)
			turn(&q)
			all = append(all, q)
		}
		change(func(q *impl.Regress) { q.Disk.Pending = "x" })
		change(func(q *impl.Regress) { q.Disk.Pending = plainRecordText(smallestRecord()) })
		change(func(q *impl.Regress) { q.Disk.Sure += marked(60001-len(q.Disk.Sure), "x") })
		change(func(q *impl.Regress) { q.Disk.Pending = marked(60001-len(q.Disk.Sure), "x") })
		change(func(q *impl.Regress) { q.Nodes = -1 })
		change(func(q *impl.Regress) { q.Nodes = math.MinInt })
		change(func(q *impl.Regress) { q.Nodes = 2001 })
		change(func(q *impl.Regress) { q.Nodes = math.MaxInt })
		change(func(q *impl.Regress) { q.Facts.Has = !q.Facts.Has })
		change(func(q *impl.Regress) { q.Facts.HasBase = !q.Facts.HasBase })
		change(func(q *impl.Regress) { q.Facts.BaseBugs = append(q.Facts.BaseBugs, impl.Bug{Kind: 14}) })
		change(func(q *impl.Regress) { q.Facts.BaseBugs = append(q.Facts.BaseBugs, impl.Bug{}) })
		change(func(q *impl.Regress) { q.Facts.Program = setProgram(3, 3, 3) })
		change(func(q *impl.Regress) { q.Facts.Base = setProgram(3, 3, 3) })
		change(func(q *impl.Regress) { q.Facts.Base.Code = append(q.Facts.Base.Code, nil) })
		change(func(q *impl.Regress) { q.Facts.Program.Code = append(q.Facts.Program.Code, nil) })
		change(func(q *impl.Regress) {
			q.Facts.Memo.Entries = append(q.Facts.Memo.Entries, impl.Entry{Key: greatestOfKey})
		})
		change(func(q *impl.Regress) { q.Facts.Memo.Entries = append(q.Facts.Memo.Entries, impl.Entry{}) })
		change(func(q *impl.Regress) { q.Facts.Memo.Entries = make([]impl.Entry, 2001) })
		change(func(q *impl.Regress) { // several at once
			q.Disk.Pending, q.Nodes, q.Bugs, q.Checked = "x", -1, bugsFrom(0, 31), true
			q.Facts = impl.Facts{Has: true, BaseBugs: bugsFrom(0, 31), Memo: impl.Memo{Entries: make([]impl.Entry, 2)}}
		})
		if !r.Up || !r.Facts.Has {
			change(func(q *impl.Regress) { q.Checked = true })
			change(func(q *impl.Regress) { q.Checked, q.Nodes, q.Bugs = true, 3, bugsFrom(2, 3) })
		}
		if !r.Checked {
			change(func(q *impl.Regress) { q.Nodes = 1 })
			change(func(q *impl.Regress) { q.Bugs = bugsFrom(0, 1) })
			change(func(q *impl.Regress) { q.Bugs, q.Nodes = bugsFrom(36, 1), 2000 })
		} else {
			for i, list := range wrongBugLists() {
				if i%9 == len(all)%9 {
					change(func(q *impl.Regress) { q.Bugs = list })
				}
			}
			change(func(q *impl.Regress) { q.Bugs = bugsFrom(0, 31) })
			change(func(q *impl.Regress) { q.Checked = q.Nodes == 0 && len(q.Bugs) == 0 && q.Up; q.Nodes = -q.Nodes - 1 })
			change(func(q *impl.Regress) { q.Checked, q.Nodes = false, 7 })
			change(func(q *impl.Regress) { q.Checked, q.Nodes, q.Bugs = false, 0, bugsFrom(3, 1) })
		}
		if r.Up {
			change(func(q *impl.Regress) { q.Disk.Sure += "x" })
			change(func(q *impl.Regress) { q.Disk.Sure += "\x02\x23\x3d3" })
			change(func(q *impl.Regress) { q.Disk.Sure = "x" + q.Disk.Sure })
			change(func(q *impl.Regress) { q.Disk.Sure = plainRecordText(versionRecord(setProgram(1, 1, 1))) })
			change(func(q *impl.Regress) { q.Disk.Sure = q.Disk.Sure[:len(q.Disk.Sure)/2] + "?" })
		}
		if r.Facts.Has {
			change(func(q *impl.Regress) { q.Up = false })
			change(func(q *impl.Regress) { q.Up, q.Checked, q.Bugs, q.Nodes = false, false, nil, 0 })
			change(func(q *impl.Regress) { q.Disk = impl.Disk{} })
			change(func(q *impl.Regress) { q.Facts = impl.Facts{} })
			change(func(q *impl.Regress) { q.Facts.Program = impl.Program{} })
			change(func(q *impl.Regress) { q.Facts.Program.Code = q.Facts.Program.Code[:2] })
			change(func(q *impl.Regress) { q.Facts.Program.Code[2] = append(q.Facts.Program.Code[2], impl.Instr{Op: 9}) })
		}
		for at, e := range r.Facts.Memo.Entries {
			if at > 4 {
				break
			}
			change(func(q *impl.Regress) { q.Facts.Memo.Entries = slices.Delete(q.Facts.Memo.Entries, at, at+1) })
			change(func(q *impl.Regress) {
				q.Facts.Memo.Entries[at].Bugs = append(e.Bugs[:len(e.Bugs):len(e.Bugs)], impl.Bug{Kind: 14})
			})
			change(func(q *impl.Regress) { q.Facts.Memo.Entries[at].Foot = e.Foot[:max(len(e.Foot)-1, 0)] })
			change(func(q *impl.Regress) { q.Facts.Memo.Entries[at].Key = greatestOfKey[1:] + "0" })
			change(func(q *impl.Regress) { q.Facts.Memo.Entries = append(q.Facts.Memo.Entries, e) })
		}
	}
	return slices.DeleteFunc(all, func(r impl.Regress) bool { return plainRegressOK(r) })
}

// plainRegressOK holds a regression against the second writing of its own disk.
func plainRegressOK(r impl.Regress) bool {
	if len(r.Disk.Sure) > 60000 || r.Disk.Pending != "" || r.Checked && !r.Facts.Has || !plainBugList(r.Bugs) || r.Nodes < 0 || r.Nodes > 2000 {
		return false
	}
	plain := plainRegress{up: r.Up, checked: r.Checked, sure: r.Disk.Sure, bugs: r.Bugs, nodes: r.Nodes}
	_, used := plainLog(r.Disk.Sure)
	return (!r.Up || used == len(r.Disk.Sure)) && (r.Up || !r.Checked) && (r.Checked || len(r.Bugs) == 0 && r.Nodes == 0) && sameRegress(r, plain.regress())
}

func TestRegressesThatAreRight(t *testing.T) {
	for i, r := range rightRegresses() {
		if !impl.RegressOK(r) || !plainRegressOK(r) {
			t.Errorf("right one %d: %s", i, toldRegress(r))
		}
		empty := clonedRegress(r) // what is empty, is nil
		for _, list := range []*[][]impl.Instr{&empty.Facts.Program.Code, &empty.Facts.Base.Code} {
			*list = append([][]impl.Instr{}, *list...)
			for k := range *list {
				(*list)[k] = append([]impl.Instr{}, (*list)[k]...)
			}
		}
		empty.Bugs, empty.Facts.BaseBugs = append([]impl.Bug{}, r.Bugs...), append([]impl.Bug{}, r.Facts.BaseBugs...)
		empty.Facts.Memo.Entries = append([]impl.Entry{}, empty.Facts.Memo.Entries...)
		for at := range empty.Facts.Memo.Entries {
			e := &empty.Facts.Memo.Entries[at]
			e.Bugs, e.Foot = append([]impl.Bug{}, e.Bugs...), append([]int{}, e.Foot...)
		}
		if !impl.RegressOK(empty) || !impl.SameRegress(r, empty) || !impl.SameRegress(empty, r) {
			t.Errorf("with empty lists %d: %s", i, toldRegress(empty))
		}
	}
}

func TestRegressesThatAreWrong(t *testing.T) {
	list := wrongRegresses()
	if len(list) < 300 {
		t.Error("hardly any:", len(list))
	}
	p := setProgram(1, 0, 2)
	for i, r := range list {
		if impl.RegressOK(r) || impl.SameRegress(r, r) || impl.SameRegress(impl.NewRegress(), r) || impl.SameRegress(r, impl.NewRegress()) {
			t.Errorf("wrong one %d: %s", i, toldRegress(r))
		}
		for _, a := range []impl.Act{submitted(p), act(2), act(3), act(4), act(5), torn(9), act(7), {}, act(8)} {
			if next, code := impl.ActDo(r, a); code != impl.ErrBad || !sameRegress(next, impl.Regress{}) { // bad comes ahead of all
				t.Errorf("wrong one %d, an act of kind %d: %d, %s", i, a.Kind, code, toldRegress(next))
			}
		}
	}
}

func TestRegressesThatAreAlike(t *testing.T) {
	list := rightRegresses()
	for i, r := range list {
		for j, other := range list {
			if got := impl.SameRegress(r, clonedRegress(other)); got != sameRegress(r, other) || got != (i == j) {
				t.Errorf("%d and %d: %v", i, j, got)
			}
		}
		if !r.Checked {
			continue
		}
		for _, turn := range []func(q *impl.Regress){
			func(q *impl.Regress) { q.Nodes = (q.Nodes + 1) % 2001 },
			func(q *impl.Regress) { q.Bugs = bugsFrom(len(q.Bugs), 2) },
			func(q *impl.Regress) { q.Bugs, q.Nodes, q.Checked = nil, 0, false },
		} {
			q := clonedRegress(r)
			turn(&q)
			if !impl.RegressOK(q) || impl.SameRegress(q, r) || impl.SameRegress(r, q) || !impl.SameRegress(q, q) {
				t.Errorf("%d and one near to it: %s, %s", i, toldRegress(r), toldRegress(q))
			}
		}
	}
}

func wantFactsTrue(t *testing.T, name string, f impl.Facts, want bool, wantCode int) {
	t.Helper()
	if yes, code := impl.FactsTrue(f); yes != want || code != wantCode {
		t.Errorf("%s: FactsTrue is %v, %d, not %v, %d: %s", name, yes, code, want, wantCode, toldFacts(f))
	}
}

// Facts are true just if all entries are, and the base's bugs are all of them.
func TestFactsThatAreTrue(t *testing.T) {
	yes, no := 0, 0
	for seed := range 30 {
		versions := regressVersions(t, seed)
		for j, p := range versions {
			other := versions[(j+1)%len(versions)]
			entries := rowsOf(plainCheck(p, nil).all)
			bugs := plainCheck(other, nil).bugs
			f := impl.Facts{Has: true, HasBase: true, Program: p, Base: other, Memo: impl.Memo{Entries: some(entries, seed, 1+j)}, BaseBugs: bugs}
			name := fmt.Sprintf("seed %d, version %d", seed, j)
			wantFactsTrue(t, name, f, true, 0)
			for i, lie := range liesOf(entries[seed%len(entries)]) {
				if i%6 == j%6 {
					f.Memo.Entries = []impl.Entry{lie}
					wantFactsTrue(t, name+" with a lie", f, sameEntry(lie, plainCheck(p, nil).all[lie.Key]), 0)
				}
			}
			f.Memo.Entries = nil
			for _, list := range [][]impl.Bug{nil, bugsFrom(seed, 1), bugsFrom(36, 1), bugsFrom(j, 30), plainMerge(bugs, bugsFrom(seed, 2))} {
				f.BaseBugs = list
				wantFactsTrue(t, name+" with other bugs", f, slices.Equal(list, bugs), 0)
			}
			if len(bugs) > 0 {
				f.BaseBugs = bugs[1:]
				wantFactsTrue(t, name+" without a bug", f, false, 0)
				yes++
			}
			f = impl.Facts{Has: true, Program: other, Memo: impl.Memo{Entries: entries}}
			want := true
			for _, e := range entries {
				got, _ := plainComes(other, e.Key)
				want = want && sameEntry(got, e)
			}
			wantFactsTrue(t, name+" of another program", f, want, 0)
			if !want {
				no++
			}
		}
	}
	if yes < 30 || no < 30 {
		t.Error("hardly any:", yes, no)
	}
}

// What is not there must be empty; a base without a Program is one all the same.
func TestFactsOfWhatIsNotThere(t *testing.T) {
	p := programOf(t, "0 assert 0 1")
	bugs, empty := []impl.Bug{{Kind: 12}}, impl.Program{Code: [][]impl.Instr{}}
	memo := impl.Memo{Entries: rowsOf(plainCheck(p, nil).all)}
	for i, row := range []struct {
		f    impl.Facts
		want bool
		code int
	}{
		{impl.Facts{}, true, 0},
		{impl.Facts{Program: empty, Base: empty, Memo: impl.Memo{Entries: []impl.Entry{}}, BaseBugs: []impl.Bug{}}, true, 0},
		{impl.Facts{Has: true, Program: p}, true, 0},
		{impl.Facts{Has: true, Program: p, Memo: memo}, true, 0},
		{impl.Facts{HasBase: true, Base: p, BaseBugs: bugs}, true, 0},
		{impl.Facts{HasBase: true, Base: p}, false, 0},
		{impl.Facts{HasBase: true, Base: setProgram(1, 1, 1)}, true, 0},
		{impl.Facts{Has: true, HasBase: true, Program: setProgram(2, 0, 0), Base: p, BaseBugs: bugs}, true, 0},
		{impl.Facts{Has: true, HasBase: true, Program: setProgram(2, 0, 0), Base: p, Memo: memo}, false, 0},
		{impl.Facts{Has: true}, false, 1},
		{impl.Facts{Program: p}, false, 1},
		{impl.Facts{Program: setProgram(0, 0, 0)}, false, 1},
		{impl.Facts{Memo: memo}, false, 1},
		{impl.Facts{HasBase: true}, false, 1},
		{impl.Facts{Base: p}, false, 1},
		{impl.Facts{BaseBugs: bugs}, false, 1},
		{impl.Facts{Has: true, Program: p, Base: p}, false, 1},
		{impl.Facts{Has: true, Program: p, BaseBugs: bugs}, false, 1},
		{impl.Facts{Has: true, Program: p, Base: p, BaseBugs: bugs}, false, 1},
		{impl.Facts{HasBase: true, Base: p, BaseBugs: bugs, Memo: memo}, false, 1},
		{impl.Facts{HasBase: true, Base: p, BaseBugs: bugs, Program: p}, false, 1},
		{impl.Facts{Has: true, HasBase: true, Program: p, BaseBugs: bugs}, false, 1},
		{impl.Facts{Has: true, HasBase: true, Base: p, BaseBugs: bugs}, false, 1},
	} {
		wantFactsTrue(t, fmt.Sprint("row ", i), row.f, row.want, row.code)
	}
}

func TestFactsThatAreWrong(t *testing.T) {
	p := programOf(t, "0 assert 0 1")
	right := impl.Facts{Has: true, HasBase: true, Program: p, Base: p, Memo: impl.Memo{Entries: rowsOf(plainCheck(p, nil).all)}, BaseBugs: []impl.Bug{{Kind: 12}}}
	untrue := right
	untrue.BaseBugs = nil
	for _, f := range []impl.Facts{right, untrue} { // bad comes ahead of what is not true
		wantFactsTrue(t, "right", f, len(f.BaseBugs) > 0, 0)
		bad := func(turn func(f *impl.Facts)) {
			t.Helper()
			g := clonedFacts(f)
			turn(&g)
			wantFactsTrue(t, "wrong", g, false, impl.ErrBad)
		}
		for _, q := range wrongPrograms() {
			bad(func(f *impl.Facts) { f.Program = q })
			bad(func(f *impl.Facts) { f.Base = q })
			bad(func(f *impl.Facts) { f.Program, f.Base = q, q })
			bad(func(f *impl.Facts) { f.Has, f.Program, f.Memo = false, impl.Program{}, impl.Memo{}; f.Base = q })
		}
		for i, list := range wrongBugLists() {
			if i < 40 || i%7 == 0 {
				bad(func(f *impl.Facts) { f.BaseBugs = list })
			}
		}
		for i, e := range wrongEntries() {
			if i < 40 || i%7 == 0 {
				bad(func(f *impl.Facts) { f.Memo.Entries = []impl.Entry{e} })
				bad(func(f *impl.Facts) { f.Memo.Entries = append(f.Memo.Entries, e) })
			}
		}
		for _, m := range wrongMemos() {
			bad(func(f *impl.Facts) { f.Memo = m })
		}
		bad(func(f *impl.Facts) { f.BaseBugs = bugsFrom(0, 31) })
		bad(func(f *impl.Facts) { slices.Reverse(f.Memo.Entries) })
		bad(func(f *impl.Facts) { f.Memo.Entries = append(f.Memo.Entries, f.Memo.Entries[0]) })
		bad(func(f *impl.Facts) {
			f.Program, f.BaseBugs, f.Memo.Entries[0].Key = impl.Program{}, bugsFrom(0, 31), ""
		})
	}
}

// Of too many states nobody tells all bugs, and no entry is true.
func TestFactsOfTooManyStates(t *testing.T) {
	for i, p := range beyondPrograms(t) {
		name := fmt.Sprint("program ", i)
		found := []impl.Bug{{Kind: 12, Thread: (3 - i) % 3}, {Kind: 13, Thread: (4 - i) % 3}, {Kind: 13, Thread: (5 - i) % 3}}
		for _, bugs := range [][]impl.Bug{nil, plainMerge(found), bugsFrom(0, 30)} {
			wantFactsTrue(t, name, impl.Facts{HasBase: true, Base: p, BaseBugs: bugs}, false, 0)
		}
		wantFactsTrue(t, name, impl.Facts{Has: true, Program: p}, true, 0)
		first, _ := plainComes(p, newKey)
		wantFactsTrue(t, name, impl.Facts{Has: true, Program: p, Memo: impl.Memo{Entries: []impl.Entry{first}}}, false, 0)
		wantFactsTrue(t, name, impl.Facts{Has: true, Program: p, Memo: impl.Memo{Entries: []impl.Entry{{Key: newKey}}}}, false, 0)
	}
}

// A log that no act led to may have entries that are right, but not true: a check
// goes by them. Of more bugs than a record has it tells all, and lays nothing down.
func TestRegressesOfEntriesThatTellMany(t *testing.T) {
	p, _ := manyBugs()
	for n := 12; n <= 18; n++ {
		list := toldMany(n, n)
		log, _ := logOf([]impl.Record{versionRecord(p), entryRecord(list[0]), entryRecord(list[1])})
		r := recovered(t, log)
		want := plainCheck(p, list)
		got, code := impl.ActDo(r, act(impl.AcCheck))
		if code != 0 || !got.Up || !got.Checked || got.Nodes != 1 || !slices.Equal(got.Bugs, want.bugs) || len(got.Bugs) != 2*n {
			t.Errorf("%d bugs: %d, %s", 2*n, code, toldRegress(got))
		}
		if many := 2*n > 30; (got.Disk == r.Disk) != many || impl.RegressOK(got) == many || sameFacts(got.Facts, r.Facts) != many {
			t.Errorf("%d bugs: %s", 2*n, toldRegress(got))
		}
		down, code := impl.ActDo(r, torn(60000))
		if code != 0 || down.Up || down.Disk != got.Disk || !impl.RegressOK(down) {
			t.Errorf("%d bugs, torn: %d, %s", 2*n, code, toldRegress(down))
		}
	}
}
