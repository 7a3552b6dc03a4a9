package tests

import (
	"cmp"
	"crypto/sha256"
	"fmt"
	"math"
	"runtime"
	"slices"
	"strings"
	"testing"
	"unsafe"

	"loop.example/g00632/impl"
)

// oddNumbers and oddTexts are what anybody may hand in, right or wrong.
func oddNumbers() []int {
	list := []int{math.MinInt, math.MinInt + 1, -1 << 31, -20, -1, 19, 20, 1 << 31, 1 << 32, math.MaxInt - 1, math.MaxInt, impl.MaxNumber + 1}
	return append(list, edgeNumbers()...)
}

func oddTexts() []string {
	texts := append(sumTexts(), "ok", "version", "name_1", long(40), long(41), long(60000), long(60001), long(impl.MaxText), long(impl.MaxText+1),
		strings.Repeat("\x80", impl.MaxText), strings.Repeat("\xff", impl.MaxText+1), strings.Repeat("\x00", impl.MaxText),
		plainList(counted(300)), plainFrame("ab"), plainFrame(long(60000)), "\xff\xff\xff\xff\xff\xff\xff\xff\xff\x7f")
	state := uint32(1)
	for range 300 { // a plain rule makes them, so that each run has the same ones
		text := make([]byte, state>>16%12)
		for i := range text {
			state = state*1664525 + 1013904223
			text[i] = byte(state >> 24)
		}
		state = state*1664525 + 1013904223
		texts = append(texts, string(text))
	}
	return texts
}

func oddLists() [][]int {
	return [][]int{nil, {}, {0}, {math.MinInt}, {5, -1}, edgeNumbers(), oddNumbers(), counted(impl.MaxList), counted(impl.MaxList + 1)}
}

// callsOfStage1 holds every call of chapters 1 and 2 with its arguments; each tells its answer.
func callsOfStage1() []func() string {
	var calls []func() string
	for _, n := range oddNumbers() {
		calls = append(calls,
			func() string { return impl.CodeWord(n) },
			func() string { return fmt.Sprint(impl.PackNumber(n)) })
	}
	for _, list := range oddLists() {
		calls = append(calls, func() string { return fmt.Sprint(impl.PackList(list)) })
	}
	for _, text := range oddTexts() {
		calls = append(calls,
			func() string { return fmt.Sprint(impl.NameOK(text)) },
			func() string { return fmt.Sprint(impl.CodeOf(text)) },
			func() string { return fmt.Sprint(impl.UnpackNumber(text)) },
			func() string { return fmt.Sprint(impl.UnpackList(text)) },
			func() string { return fmt.Sprint(impl.SumOf(text)) },
			func() string { return fmt.Sprint(impl.FrameText(text)) },
			func() string { return fmt.Sprint(impl.UnframeText(text)) })
	}
	return calls
}

func oddInstrs() []impl.Instr {
	return append(wrongInstrs(), sortedInstrs()...)
}

func oddPrograms() []impl.Program {
	all := wrongPrograms()
	for i, p := range rightPrograms() {
		if i%20 == 0 {
			all = append(all, p)
		}
	}
	return all
}

func oddLines() [][]string {
	var all [][]string
	for i, p := range rightPrograms() {
		if i%20 == 0 {
			all = append(all, plainLines(p), inTurns(p))
		}
	}
	return append(all, nil, []string{}, []string{""}, []string{"0 jump 0 6"}, oddTexts(), make([]string, impl.MaxList), make([]string, impl.MaxList+1),
		slices.Repeat([]string{"0 set 0 1"}, 7), []string{"0 set 0 1", strings.Repeat(" ", impl.MaxText+1), "9"})
}

// callsOfStage2 holds every call of chapter 3 with its arguments.
func callsOfStage2() []func() string {
	var calls []func() string
	for _, x := range oddInstrs() {
		calls = append(calls,
			func() string { return fmt.Sprint(impl.InstrOK(x)) },
			func() string { return fmt.Sprint(impl.InstrText(x)) })
	}
	programs := oddPrograms()
	for i, p := range programs {
		other := programs[(i+1)%len(programs)]
		calls = append(calls,
			func() string { return fmt.Sprint(impl.ProgramOK(p)) },
			func() string { return fmt.Sprint(impl.ProgramText(p)) },
			func() string { return fmt.Sprint(impl.PackProgram(p)) },
			func() string { return fmt.Sprint(impl.SameProgram(p, p), impl.SameProgram(p, other)) })
	}
	for _, lines := range oddLines() {
		calls = append(calls, func() string { return fmt.Sprint(impl.ReadProgram(lines)) })
	}
	texts := oddTexts()
	for _, p := range rightPrograms()[:40] {
		texts = append(texts, plainList(plainNumbers(p)))
	}
	for _, x := range oddInstrs() {
		texts = append(texts, instrTexts[x], "  "+instrTexts[x]+" 0")
	}
	for _, text := range texts {
		calls = append(calls,
			func() string { return fmt.Sprint(impl.ReadInstr(text)) },
			func() string { return fmt.Sprint(impl.UnpackProgram(text)) })
	}
	return calls
}

func oddVms() []impl.Vm {
	all := wrongVms()
	for i, key := range rightKeys() {
		if i%25 == 0 {
			all = append(all, vmOfKey(key))
		}
	}
	return all
}

// callsOfStage3 holds every call of chapter 4 with its arguments.
func callsOfStage3() []func() string {
	var calls []func() string
	states := oddVms()
	programs := append(oddPrograms(), rightPrograms()[300:340]...)
	for i, p := range programs {
		for j := range 4 {
			s := states[len(states)-1-(i*5+j)%60]
			calls = append(calls, callsOfState(p, s)...)
		}
	}
	right := jumping(0, 6, 0, 6)
	for i, s := range states {
		other := states[(i+1)%len(states)]
		calls = append(calls, callsOfState(right, s)...)
		calls = append(calls,
			func() string { return fmt.Sprint(impl.KeyOf(s)) },
			func() string { return fmt.Sprint(impl.SameVm(s, s), impl.SameVm(s, other)) })
	}
	for _, text := range append(oddTexts(), rightKeys()...) {
		calls = append(calls, func() string { return fmt.Sprint(impl.VmOf(text)) })
	}
	return append(calls, func() string { return fmt.Sprint(impl.NewVm()) })
}

func callsOfState(p impl.Program, s impl.Vm) []func() string {
	calls := []func() string{
		func() string { return fmt.Sprint(impl.VmOK(p, s)) },
		func() string { return fmt.Sprint(impl.EnabledOf(p, s)) },
		func() string { return fmt.Sprint(impl.IsStuck(p, s)) },
	}
	for _, k := range []int{math.MinInt, -1, 0, 1, 2, 3, math.MaxInt} {
		calls = append(calls,
			func() string { return fmt.Sprint(impl.IsDone(p, s, k)) },
			func() string { return fmt.Sprint(impl.StepVm(p, s, k)) })
	}
	return calls
}

func oddBugs() []impl.Bug {
	right, _ := plainBugs()
	return append(wrongBugs(), right...)
}

func oddBugLists() [][]impl.Bug {
	right, _ := plainBugs()
	return [][]impl.Bug{nil, {}, right, slices.Repeat(right, 3), oddBugs(), someBugs(30, 1), someBugs(impl.MaxList, 2), someBugs(impl.MaxList+1, 2), make([]impl.Bug, 2)}
}

func oddSchedules() [][]int {
	all := append(oddLists(), []int{0, 1, 2}, []int{2, 2, 2, 2, 2, 2, 1, 1, 1}, []int{1, 0, 3})
	for seed := range 12 {
		all = append(all, mixedSchedule(seed*2, seed))
	}
	return all
}

// callsOfStage4 holds every call of chapter 5 with its arguments.
func callsOfStage4() []func() string {
	var calls []func() string
	for _, b := range oddBugs() {
		calls = append(calls,
			func() string { return fmt.Sprint(impl.BugOK(b)) },
			func() string { return fmt.Sprint(impl.BugText(b)) })
	}
	_, texts := plainBugs()
	for _, text := range append(oddTexts(), texts...) {
		calls = append(calls, func() string { return fmt.Sprint(impl.ReadBug(text)) })
	}
	for _, a := range oddBugLists() {
		for _, b := range oddBugLists() {
			calls = append(calls, func() string { return fmt.Sprint(impl.MergeBugs(a, b)) })
		}
	}
	programs := append(oddPrograms(), rightPrograms()[300:340]...)
	for i, p := range programs {
		for j, list := range oddSchedules() {
			calls = append(calls, callsOfSchedule(p, list, oddBugs()[(i+j)%len(oddBugs())])...)
		}
	}
	return calls
}

func callsOfSchedule(p impl.Program, list []int, b impl.Bug) []func() string {
	return []func() string{
		func() string { return fmt.Sprint(impl.RunSchedule(p, list)) },
		func() string { return fmt.Sprint(impl.IsWitness(p, list, b)) },
	}
}

func oddEvents() []impl.Event {
	all := []impl.Event{{}, {Thread: -1, Pc: -1, Op: -1, Obj: -1}, {Thread: math.MaxInt, Pc: math.MinInt, Op: math.MaxInt, Obj: math.MaxInt}}
	for i, n := range oddNumbers() {
		all = append(all, impl.Event{Thread: i % 3, Pc: n, Op: i%8 + 1, Obj: n % 7}, impl.Event{Thread: n, Op: n, Obj: i % 6})
	}
	return all
}

// callsOfStage5 holds every call of chapter 6 with its arguments.
func callsOfStage5() []func() string {
	var calls []func() string
	events := oddEvents()
	for i, a := range events {
		b := events[(i+5)%len(events)]
		calls = append(calls, func() string { return fmt.Sprint(impl.Depends(a, b), impl.Depends(a, a)) })
	}
	programs := append(oddPrograms(), closePrograms()[100:140]...)
	for i, p := range programs {
		lists := oddSchedules()
		if impl.ProgramOK(p) {
			lists = append(lists, turns(p, i), turns(p, i+1))
		}
		for j, list := range lists {
			calls = append(calls, callsOfTrace(p, list, lists[(j+1)%len(lists)])...)
		}
	}
	return calls
}

func callsOfTrace(p impl.Program, list, other []int) []func() string {
	return []func() string{
		func() string { return fmt.Sprint(impl.EventsOf(p, list)) },
		func() string { return fmt.Sprint(impl.OrderOf(p, list)) },
		func() string { return fmt.Sprint(impl.RacesOf(p, list)) },
		func() string { return fmt.Sprint(impl.NormalOf(p, list)) },
		func() string { return fmt.Sprint(impl.SameClass(p, list, other)) },
	}
}

// callsOfStage6 holds every call of chapter 7 with its arguments.
func callsOfStage6() []func() string {
	var calls []func() string
	bugs, keys := oddBugs(), append(oddTexts(), rightKeys()...)
	programs := slices.Concat(oddPrograms(), closePrograms()[100:140], racingPrograms()[:6])
	for i, p := range programs {
		calls = append(calls, callsOfFull(p, bugs[i%len(bugs)], keys[i%len(keys)])...)
	}
	p := jumping(1, 6, 0, 6)
	for i, key := range keys {
		calls = append(calls, callsOfFull(p, bugs[i%len(bugs)], key)...)
	}
	return calls
}

func callsOfFull(p impl.Program, b impl.Bug, key string) []func() string {
	return []func() string{
		func() string { return fmt.Sprint(impl.AllStates(p)) },
		func() string { return fmt.Sprint(impl.AllBugs(p)) },
		func() string { return fmt.Sprint(impl.WitnessOf(p, b)) },
		func() string { return fmt.Sprint(impl.WitnessOf(p, impl.Bug{Kind: impl.ErrDeadlock})) },
		func() string { return fmt.Sprint(impl.CountRuns(p)) },
		func() string { return fmt.Sprint(impl.IsReached(p, key)) },
	}
}

func oddSleepers() [][]int {
	return append(oddLists(), []int{0, 1, 2}, []int{2, 0}, []int{1, 1, 0, 2}, []int{-1, 0}, []int{0, 3}, make([]int, impl.MaxList))
}

// callsOfStage7 holds every call of chapter 8 with its arguments.
func callsOfStage7() []func() string {
	var calls []func() string
	states := oddVms()
	for i, p := range slices.Concat(oddPrograms(), closePrograms()[100:140], racingPrograms()[:6]) {
		calls = append(calls, callsOfSleep(p)...)
		for j := range 3 {
			s := states[len(states)-1-(i*5+j)%60]
			calls = append(calls, callsOfSleepers(p, s, oddSleepers()[(i+j)%len(oddSleepers())])...)
		}
	}
	p := programOfNobody()
	for i, s := range states {
		calls = append(calls, callsOfSleepers(p, s, oddSleepers()[i%len(oddSleepers())])...)
	}
	for _, sleep := range oddSleepers() {
		calls = append(calls, callsOfSleepers(p, impl.NewVm(), sleep)...)
	}
	return calls
}

// programOfNobody has threads none of which depends on another one, so that they
// all sleep on.
func programOfNobody() impl.Program {
	return impl.Program{Code: [][]impl.Instr{setting(6), setting(6), setting(6)}}
}

func callsOfSleep(p impl.Program) []func() string {
	return []func() string{
		func() string { return fmt.Sprint(impl.SleepSearch(p)) },
		func() string { return fmt.Sprint(impl.ClassesOf(p)) },
	}
}

func callsOfSleepers(p impl.Program, s impl.Vm, sleep []int) []func() string {
	var calls []func() string
	for _, k := range []int{math.MinInt, -1, 0, 1, 2, 3, math.MaxInt} {
		calls = append(calls,
			func() string { return fmt.Sprint(impl.NextEvent(p, s, k)) },
			func() string { return fmt.Sprint(impl.StillSleeps(p, s, sleep, k)) })
	}
	return calls
}

func oddItemLists() [][]int {
	return append(oddLists(), everyItem(), noItems(), []int{22, 0, 8}, []int{5, 5, 5, 16}, []int{0, 7}, slices.Repeat(everyItem(), 195), slices.Repeat(everyItem(), 196))
}

// callsOfStage8 holds every call of chapter 9 with its arguments.
func callsOfStage8() []func() string {
	var calls []func() string
	for _, n := range append(oddNumbers(), noItems()...) {
		calls = append(calls, func() string { return fmt.Sprint(impl.ItemAt(n)) })
		for _, other := range []int{math.MinInt, -1, 0, 2, 3, 6, 7, n, math.MaxInt} {
			calls = append(calls, func() string { return fmt.Sprint(impl.ItemOf(n, other)) }, func() string { return fmt.Sprint(impl.ItemOf(other, n)) })
		}
	}
	for _, a := range oddItemLists() {
		for _, b := range oddItemLists() {
			calls = append(calls, callsOfItems(a, b)...)
		}
	}
	states := oddVms()
	for i, p := range slices.Concat(oddPrograms(), closePrograms()[100:140], racingPrograms()[:6]) {
		calls = append(calls, callsOfFeet(p, impl.NewVm())...)
		for j := range 3 {
			calls = append(calls, callsOfFeet(p, states[len(states)-1-(i*5+j)%60])...)
		}
	}
	for i, s := range states {
		calls = append(calls, callsOfFeet(jumping(i%3, 6, i%6, 6), s)...)
	}
	return calls
}

func callsOfItems(a, b []int) []func() string {
	return []func() string{
		func() string { return fmt.Sprint(impl.Touches(a, b)) },
		func() string { return fmt.Sprint(impl.MergeItems(a, b)) },
	}
}

func callsOfFeet(p impl.Program, s impl.Vm) []func() string {
	return []func() string{
		func() string { return fmt.Sprint(impl.LooksAt(p, s)) },
		func() string { return fmt.Sprint(impl.FootOf(p, s)) },
	}
}

// callsOfStage9 holds every call of chapter 10 with its arguments.
func callsOfStage9() []func() string {
	var calls []func() string
	programs := append(oddPrograms(), closePrograms()[100:130]...)
	feet := oddItemLists()
	for i, p := range programs {
		for j, q := range []impl.Program{p, programs[(i*31+7)%len(programs)], setProgram(6, i%7, 2)} {
			calls = append(calls, callsOfVersions(p, q, feet[(i+j)%len(feet)])...)
			calls = append(calls, callsOfVersions(q, p, []int{i % 23, 22})...)
		}
		for _, item := range []int{i % 24, 22 - i%5, math.MinInt, math.MaxInt} {
			calls = append(calls, func() string { return fmt.Sprint(impl.InstrAt(p, item)) })
		}
	}
	for i, foot := range feet {
		calls = append(calls, callsOfVersions(setProgram(6, 3, 1), setProgram(4, i%7, 1), foot)...)
	}
	for _, n := range append(oddNumbers(), noItems()...) {
		calls = append(calls, func() string { return fmt.Sprint(impl.InstrAt(setProgram(6, 3, 1), n)) })
	}
	return calls
}

func callsOfVersions(p, q impl.Program, foot []int) []func() string {
	return []func() string{
		func() string { return fmt.Sprint(impl.ChangedItems(p, q)) },
		func() string { return fmt.Sprint(impl.DiffText(p, q)) },
		func() string { return fmt.Sprint(impl.AgreeOn(p, q, foot)) },
	}
}

// oddEntries are right and wrong, every few of each.
func oddEntries() []impl.Entry {
	var all []impl.Entry
	for i, e := range append(rightEntries(), wrongEntries()...) {
		if i%9 == 0 || i < 12 {
			all = append(all, e)
		}
	}
	return all
}

func oddMemos() []impl.Memo {
	all := []impl.Memo{{}, {Entries: []impl.Entry{}}, {Entries: make([]impl.Entry, 3)}, {Entries: make([]impl.Entry, impl.MaxStates+1)}, {Entries: oddEntries()},
		someMemo(1, 4), someMemo(2, 9), someMemo(5, 13), someMemo(21, 2), someMemo(impl.MaxStates, 3), someMemo(impl.MaxStates+1, 3)}
	turned := someMemo(6, 2)
	slices.Reverse(turned.Entries)
	twice := someMemo(6, 2)
	twice.Entries[2] = twice.Entries[1]
	return append(all, turned, twice)
}

// callsOfStage10 holds every call of chapter 11 with its arguments.
func callsOfStage10() []func() string {
	var calls []func() string
	memos, lists := oddMemos(), oddItemLists()
	for i, e := range oddEntries() {
		calls = append(calls, callsOfEntry(e)...)
		calls = append(calls, callsOfMemo(someMemo(i%5, i), e, lists[i%len(lists)])...)
	}
	for i, m := range memos {
		other := memos[(i+1)%len(memos)]
		calls = append(calls, func() string {
			return fmt.Sprint(impl.SameMemo(m, m), impl.SameMemo(m, other), impl.SameMemo(other, m))
		})
		for _, e := range []impl.Entry{{Key: newKey, Foot: []int{3}}, greatestEntry(), {Key: "0"}} {
			calls = append(calls, callsOfMemo(m, e, lists[i%len(lists)])...)
		}
		for _, e := range m.Entries[:min(len(m.Entries), 3)] {
			calls = append(calls, callsOfMemo(m, someEntry(e.Key, 5), []int{22, 5, 5})...)
		}
	}
	for _, changed := range lists {
		calls = append(calls, callsOfMemo(memos[8], impl.Entry{}, changed)...)
	}
	for _, text := range oddTexts() {
		calls = append(calls,
			func() string { return fmt.Sprint(impl.ReadEntry(text)) },
			func() string { return fmt.Sprint(impl.ReadEntry(newKey + text)) },
			func() string { return fmt.Sprint(impl.FindEntry(memos[8], text)) })
	}
	return calls
}

func callsOfEntry(e impl.Entry) []func() string {
	return []func() string{
		func() string { return fmt.Sprint(impl.EntryOK(e)) },
		func() string { return fmt.Sprint(impl.EntryText(e)) },
		func() string {
			text, _ := impl.EntryText(e)
			return fmt.Sprint(impl.ReadEntry(text))
		},
	}
}

func callsOfMemo(m impl.Memo, e impl.Entry, changed []int) []func() string {
	return []func() string{
		func() string { return fmt.Sprint(impl.MemoOK(m)) },
		func() string { return fmt.Sprint(impl.FindEntry(m, e.Key)) },
		func() string { return fmt.Sprint(impl.PutEntry(m, e)) },
		func() string { return fmt.Sprint(impl.KeepEntries(m, changed)) },
		func() string { return fmt.Sprint(impl.SameMemo(m, impl.Memo{Entries: []impl.Entry{e}})) },
	}
}

// callsOfStage11 holds every call of chapter 12 with its arguments.
func callsOfStage11() []func() string {
	var calls []func() string
	programs, memos, entries := oddPrograms(), oddMemos(), oddEntries()
	for i, p := range programs {
		for j := range 3 {
			calls = append(calls, callsOfChecks(p, memos[(i+j*5)%len(memos)], entries[(i*7+j*31)%len(entries)])...)
		}
		_, m, _ := impl.CheckFresh(p)
		calls = append(calls, callsOfChecks(p, impl.Memo{Entries: some(m.Entries, i, 2)}, impl.Entry{Key: newKey})...)
	}
	for i, e := range entries {
		p := closePrograms()[i%40]
		_, m, _ := impl.CheckFresh(p)
		calls = append(calls, callsOfChecks(p, impl.Memo{Entries: some(m.Entries, i, 3)}, e)...)
	}
	p, m := manyBugs()
	calls = append(calls, callsOfChecks(p, m, impl.Entry{Key: newKey})...)
	for _, was := range memos {
		for _, now := range memos {
			calls = append(calls, func() string { return fmt.Sprint(impl.NewEntries(was, now)) })
		}
	}
	return calls
}

// manyBugs are right, and come to an entry of a node that has too many bugs to be so.
func manyBugs() (impl.Program, impl.Memo) {
	return setProgram(1, 1, 0), impl.Memo{Entries: toldMany(18, 18)}
}

func callsOfChecks(p impl.Program, m impl.Memo, e impl.Entry) []func() string {
	return []func() string{
		func() string { return fmt.Sprint(impl.CheckFresh(p)) },
		func() string { return fmt.Sprint(impl.CheckAgain(p, m)) },
		func() string { return fmt.Sprint(impl.EntryTrue(p, e)) },
		func() string { return fmt.Sprint(impl.MemoTrue(p, m)) },
	}
}

// toldDisk tells disks by their sums, as many of them are long.
func toldDisk(d impl.Disk, code int) string {
	return fmt.Sprintf("%d %d %x %x %d", len(d.Sure), len(d.Pending), sha256.Sum256([]byte(d.Sure)), sha256.Sum256([]byte(d.Pending)), code)
}

// callsOfStage12 holds every call of chapter 13 with its arguments.
func callsOfStage12() []func() string {
	var calls []func() string
	texts := oddTexts()
	for i, d := range oddDisks() {
		calls = append(calls,
			func() string { return fmt.Sprint(impl.DiskOK(d)) },
			func() string { return toldDisk(impl.FlushDisk(d)) })
		for j, text := range append(diskTexts(d), texts[i%40], texts[i]) {
			if i%4 == j%4 {
				calls = append(calls,
					func() string { return toldDisk(impl.AppendDisk(d, text)) },
					func() string { return toldDisk(impl.ReplaceDisk(d, text)) })
			}
		}
		for j, n := range diskNumbers(d) {
			if i%4 == j%4 {
				calls = append(calls,
					func() string { return toldDisk(impl.CrashDisk(d, n)) },
					func() string { return toldDisk(impl.CutDisk(d, n)) })
			}
		}
	}
	return calls
}

func oddRecords() []impl.Record {
	all := []impl.Record{{}, {Kind: 1}, {Kind: 2, Text: "\x00"}, smallestRecord(), greatestRecord(), {Kind: 3, Text: long(impl.MaxText + 1)}}
	for i, text := range oddTexts() {
		all = append(all, impl.Record{Kind: i%6 - 1, Text: text})
	}
	for _, kind := range oddNumbers() {
		all = append(all, impl.Record{Kind: kind, Text: "\x00"}, impl.Record{Kind: kind, Text: newKey + "\x01\x00"})
	}
	return append(all, mixedRecords()[:60]...)
}

// oddLogs are whole, torn, bent, or none at all.
func oddLogs() []impl.Disk {
	all := []impl.Disk{{Sure: strings.Repeat(plainRecordText(smallestRecord()), 12000)}}
	for i, list := range someLogs() {
		log, _ := logOf(list)
		all = append(all, impl.Disk{Sure: log}, impl.Disk{Sure: log[:len(log)/2]}, impl.Disk{Sure: log, Pending: "x"}, impl.Disk{Sure: log + strangeFrames()[i*7]})
		all = append(all, impl.Disk{Sure: log[:len(log)/3] + "\xff" + log}, impl.Disk{Sure: log + strangeBytes()[i]})
	}
	return append(all, oddDisks()...)
}

// callsOfStage13 holds every call of chapter 14 with its arguments.
func callsOfStage13() []func() string {
	var calls []func() string
	disks := oddLogs()
	for i, r := range oddRecords() {
		d := disks[(i*7)%len(disks)]
		calls = append(calls,
			func() string { return fmt.Sprint(impl.RecordOK(r)) },
			func() string { return fmt.Sprint(impl.RecordText(r)) },
			func() string { return toldDisk(impl.AppendRecord(impl.Disk{}, r)) },
			func() string { return toldDisk(impl.AppendRecord(d, r)) })
	}
	for _, d := range disks {
		calls = append(calls,
			func() string { return fmt.Sprint(impl.ReadLog(d)) },
			func() string { return toldDisk(impl.RecoverLog(d)) })
	}
	for _, list := range append(oddBugLists(), rightBugLists()...) {
		calls = append(calls, func() string { return fmt.Sprint(impl.CommitText(list)) })
	}
	return calls
}

// oddRegresses are right and wrong, every few of these.
func oddRegresses() []impl.Regress {
	all := rightRegresses()
	for i, r := range wrongRegresses() {
		if i%70 == 0 {
			all = append(all, r)
		}
	}
	p, m := manyBugs()
	log, _ := logOf([]impl.Record{versionRecord(p), entryRecord(m.Entries[0]), entryRecord(m.Entries[1])})
	return append(all, plainRegress{up: true, sure: log}.regress())
}

func oddActs() []impl.Act {
	all := []impl.Act{submitted(holds()), submitted(fails()), submitted(setProgram(6, 6, 6)), act(2), act(3), act(4), act(5), torn(0), torn(40), torn(60000), act(7)}
	for i, a := range wrongActs() {
		if i%11 == 0 {
			all = append(all, a)
		}
	}
	return all
}

func oddActLists() [][]impl.Act {
	right := oddActs()[:11]
	all := [][]impl.Act{nil, {}, right, oddActs()[:40], slices.Repeat(right, 4)[:40], slices.Repeat(right, 4)[:41], make([]impl.Act, 3), make([]impl.Act, impl.MaxList), make([]impl.Act, impl.MaxList+1)}
	for i := range right {
		all = append(all, append(slices.Clone(right[i:]), right[:i]...), slices.Repeat([]impl.Act{right[i], right[(i*3+3)%11]}, 20))
	}
	return all
}

func oddRecordLists() [][]impl.Record {
	odd := oddRecords()
	all := append(someLogs(), odd, odd[:1], mixedRecords(), make([]impl.Record, impl.MaxList), make([]impl.Record, impl.MaxList+1), slices.Repeat(mixedRecords()[:1], impl.MaxList), slices.Repeat(mixedRecords()[:1], impl.MaxList+1))
	for i := range 20 {
		all = append(all, append(mixedRecords()[i*3:i*5+1], odd[i*9]), mixedRecords()[i*7:][:i*4])
	}
	return all
}

// callsOfStage14 holds every call of chapter 15 with its arguments.
func callsOfStage14() []func() string {
	calls := []func() string{func() string { return toldRegress(impl.NewRegress()) }}
	acts, regresses := oddActs(), oddRegresses()
	for i, r := range regresses {
		other := regresses[(i+1)%len(regresses)]
		for j := range 5 {
			calls = append(calls, callsOfRegress(r, other, acts[(i*3+j)%len(acts)])...)
		}
	}
	for _, r := range regresses[:15] {
		for _, a := range acts {
			calls = append(calls, callsOfRegress(r, r, a)...)
		}
	}
	for _, a := range append(wrongActs(), acts...) {
		calls = append(calls, func() string { return fmt.Sprint(impl.ActOK(a)) })
	}
	for _, list := range oddActLists() {
		calls = append(calls, callsOfActs(list)...)
	}
	for _, list := range oddRecordLists() {
		calls = append(calls, callsOfRecords(list)...)
	}
	return calls
}

func callsOfRegress(r, other impl.Regress, a impl.Act) []func() string {
	return []func() string{
		func() string { return fmt.Sprint(impl.RegressOK(r), impl.SameRegress(r, other)) },
		func() string { return fmt.Sprint(impl.FactsTrue(r.Facts)) },
		func() string {
			next, code := impl.ActDo(r, a)
			return fmt.Sprint(next.Facts, toldRegress(next), code)
		},
	}
}

func callsOfActs(list []impl.Act) []func() string {
	return []func() string{func() string {
		r, codes, code := impl.ActsRun(list)
		return fmt.Sprint(r.Facts, toldRegress(r), codes, code)
	}}
}

func callsOfRecords(list []impl.Record) []func() string {
	return []func() string{func() string { return fmt.Sprint(impl.FoldLog(list)) }}
}

func allCalls() []func() string {
	return slices.Concat(callsOfStage1(), callsOfStage2(), callsOfStage3(), callsOfStage4(), callsOfStage5(), callsOfStage6(), callsOfStage7(), callsOfStage8(), callsOfStage9(), callsOfStage10(), callsOfStage11(), callsOfStage12(), callsOfStage13(), callsOfStage14())
}

// A panic anywhere here fails the test too.
func TestAnswersDoNotHangOnWhatWasCalledAhead(t *testing.T) {
	calls := allCalls()
	first := make([]string, len(calls))
	for i, call := range calls {
		first[i] = call()
	}
	for i, call := range slices.Backward(calls) {
		if again := call(); again != first[i] {
			t.Errorf("call %d answered %.60q, then %.60q", i, first[i], again)
		}
	}
}

func TestPackListLeavesItsArgument(t *testing.T) {
	for _, list := range oddLists() {
		room := append(slices.Clone(list), 7, 8, 9)
		was := slices.Clone(room)
		impl.PackList(room[:len(list)])
		if !slices.Equal(room, was) {
			t.Errorf("a list of %d numbers, or what is behind it, was changed", len(list))
		}
	}
}

// roomy is a program with room behind the end of each of its lists, and all of
// that room.
func roomy(p impl.Program) (impl.Program, [][]impl.Instr) {
	var room [][]impl.Instr
	for _, code := range p.Code {
		all := append(slices.Clone(code), impl.Instr{Op: 3, B: 7}, impl.Instr{Op: 3, B: 8})
		room = append(room, all)
	}
	room = append(room, setting(3))
	short := impl.Program{Code: slices.Clone(room)[:len(p.Code)]}
	for k, code := range p.Code {
		short.Code[k] = room[k][:len(code)]
	}
	return short, room
}

func sameRoom(a, b [][]impl.Instr) bool {
	return slices.EqualFunc(a, b, func(x, y []impl.Instr) bool { return slices.Equal(x, y) })
}

func TestProgramsThatAreHandedInStayAsTheyWere(t *testing.T) {
	for i, p := range append(oddPrograms(), closePrograms()[:40]...) {
		given, room := roomy(p)
		behind := given.Code[:len(given.Code)+1]
		wasBehind := slices.Clone(behind)
		was := cloned(impl.Program{Code: room}).Code
		impl.ProgramOK(given)
		impl.ProgramText(given)
		impl.PackProgram(given)
		impl.SameProgram(given, given)
		impl.InstrAt(given, i%23)
		other := setProgram(i%7, 6, 0)
		for _, call := range slices.Concat(callsOfVersions(given, given, everyItem()), callsOfVersions(given, other, everyItem()), callsOfVersions(other, given, nil)) {
			call()
		}
		for _, call := range slices.Concat(callsOfFull(given, impl.Bug{Kind: impl.ErrAssert}, newKey), callsOfSleep(given), callsOfFeet(given, impl.NewVm())) {
			call()
		}
		if !sameRoom(room, was) || !sameRoom(behind, wasBehind) || !alike(given, p) {
			t.Errorf("program %d, or what is behind its lists, was changed", i)
		}
	}
}

func TestLinesThatAreHandedInStayAsTheyWere(t *testing.T) {
	for i, lines := range oddLines() {
		room := append(slices.Clone(lines), "0 set 0 1", "x")
		was := slices.Clone(room)
		impl.ReadProgram(room[:len(lines)])
		if !slices.Equal(room, was) {
			t.Errorf("lines %d, or what is behind them, were changed", i)
		}
	}
}

// roomyVm is a state with room behind the end of each of its lists, and all of
// that room.
func roomyVm(s impl.Vm) (impl.Vm, [][]int) {
	var room [][]int
	for _, list := range listsOf(&s) {
		all := append(slices.Clone(*list), 7, 8, 9)
		room = append(room, all)
		*list = all[:len(*list)]
	}
	return s, room
}

func TestStatesThatAreHandedInStayAsTheyWere(t *testing.T) {
	for i, s := range oddVms() {
		given, room := roomyVm(s)
		was := slices.Concat(room...)
		for _, p := range []impl.Program{jumping(i%3, 6, i%6, 6), stillPrograms(t)[i%4], {}} {
			p, codes := roomy(p)
			wasCodes := cloned(impl.Program{Code: codes}).Code
			for _, call := range slices.Concat(callsOfState(p, given), callsOfSleepers(p, given, []int{2, 1}), callsOfFeet(p, given)) {
				call()
			}
			if !sameRoom(codes, wasCodes) {
				t.Errorf("a program, or what is behind its lists, was changed with state %d", i)
			}
		}
		impl.KeyOf(given)
		impl.SameVm(given, given)
		if !slices.Equal(slices.Concat(room...), was) || !slices.Equal(numbersOfVm(given), numbersOfVm(s)) {
			t.Errorf("state %d, or what is behind its lists, was changed", i)
		}
	}
}

func TestBugsThatAreHandedInStayAsTheyWere(t *testing.T) {
	for i, list := range append(oddBugLists(), rightBugLists()...) {
		for j, other := range oddBugLists() {
			room := append(slices.Clone(list), impl.Bug{Kind: 13, Pc: 1}, impl.Bug{Kind: 12})
			otherRoom := append(slices.Clone(other), impl.Bug{Kind: 13, Pc: 1}, impl.Bug{Kind: 12})
			was, otherWas := slices.Clone(room), slices.Clone(otherRoom)
			impl.MergeBugs(room[:len(list)], otherRoom[:len(other)])
			impl.CommitText(room[:len(list)])
			if !slices.Equal(room, was) || !slices.Equal(otherRoom, otherWas) {
				t.Errorf("lists %d and %d, or what is behind them, were changed", i, j)
			}
		}
	}
}

func TestSchedulesThatAreHandedInStayAsTheyWere(t *testing.T) {
	programs := append(stillPrograms(t), impl.Program{}, jumping(0, 6, 0, 6))
	schedules := oddSchedules()
	for i, p := range programs[:8] {
		schedules = append(schedules, turns(p, i))
	}
	for i, list := range schedules {
		for j, p := range programs {
			p, codes := roomy(p)
			wasCodes := cloned(impl.Program{Code: codes}).Code
			room := append(slices.Clone(list), 0, 1, 2)
			was := slices.Clone(room)
			given := room[:len(list)]
			for _, call := range slices.Concat(callsOfSchedule(p, given, impl.Bug{Kind: 14}), callsOfTrace(p, given, given)) {
				call()
			}
			if !slices.Equal(room, was) || !sameRoom(codes, wasCodes) {
				t.Errorf("schedule %d or program %d, or what is behind them, was changed", i, j)
			}
		}
	}
}

func TestSleepersThatAreHandedInStayAsTheyWere(t *testing.T) {
	programs := append(stillPrograms(t), programOfNobody(), impl.Program{}, closePrograms()[120])
	for i, sleep := range oddSleepers() {
		room := append(slices.Clone(sleep), 0, 1, 2)
		was := slices.Clone(room)
		for _, p := range programs {
			for _, call := range callsOfSleepers(p, impl.NewVm(), room[:len(sleep)]) {
				call()
			}
		}
		if !slices.Equal(room, was) {
			t.Errorf("sleepers %d, or what is behind them, were changed", i)
		}
	}
}

func TestItemsThatAreHandedInStayAsTheyWere(t *testing.T) {
	for i, a := range oddItemLists() {
		for j, b := range oddItemLists() {
			room, otherRoom := append(slices.Clone(a), 9, 1, 0), append(slices.Clone(b), 9, 1, 0)
			was, otherWas := slices.Clone(room), slices.Clone(otherRoom)
			for _, call := range callsOfItems(room[:len(a)], otherRoom[:len(b)]) {
				call()
			}
			impl.AgreeOn(setProgram(6, 3, 1), setProgram(4, 3, 1), room[:len(a)])
			if !slices.Equal(room, was) || !slices.Equal(otherRoom, otherWas) {
				t.Errorf("items %d or %d, or what is behind them, were changed", i, j)
			}
		}
	}
}

// roomyEntry has room behind the end of each of its lists; with it, all of that room.
func roomyEntry(e impl.Entry) (short, room impl.Entry) {
	room = impl.Entry{Key: e.Key, Bugs: append(slices.Clone(e.Bugs), impl.Bug{Kind: 13, Pc: 1}, impl.Bug{Kind: 12}), Foot: append(slices.Clone(e.Foot), 9, 1, 0)}
	return impl.Entry{Key: e.Key, Bugs: room.Bugs[:len(e.Bugs)], Foot: room.Foot[:len(e.Foot)]}, room
}

// roomyMemo has room behind the end of its list, and of all of its entries' lists.
func roomyMemo(m impl.Memo) (impl.Memo, []impl.Entry) {
	var list, room []impl.Entry
	for _, e := range append(slices.Clone(m.Entries), impl.Entry{Key: "behind"}, impl.Entry{Key: "far behind", Foot: []int{4}}) {
		short, all := roomyEntry(e)
		list, room = append(list, short), append(room, all)
	}
	return impl.Memo{Entries: list[:len(m.Entries)]}, room
}

// firstOf is put over what is there.
func firstOf(m impl.Memo) impl.Entry {
	for _, e := range m.Entries {
		return someEntry(e.Key, 16)
	}
	return impl.Entry{}
}

func TestEntriesThatAreHandedInStayAsTheyWere(t *testing.T) {
	memos := oddMemos()
	for i, m := range memos {
		for j, e := range []impl.Entry{{Key: newKey}, greatestEntry(), someEntry("123456712654321", i), {Key: "0"}, firstOf(m)} {
			given, room := roomyMemo(m)
			behind := given.Entries[:len(given.Entries)+2]
			one, oneRoom := roomyEntry(e)
			changed := append([]int{5, 22, i % 7}, 9, 1)
			was, wasBehind := clonedEntries(room), clonedEntries(behind)
			wasOne, wasChanged := clonedEntry(oneRoom), slices.Clone(changed)
			for _, call := range slices.Concat(callsOfEntry(one), callsOfMemo(given, one, changed[:3])) {
				call()
			}
			impl.SameMemo(given, given)
			if !sameEntries(room, was) || !sameEntries(behind, wasBehind) {
				t.Errorf("memo %d, or what is behind its lists, was changed with entry %d", i, j)
			}
			if !sameEntry(oneRoom, wasOne) || !slices.Equal(changed, wasChanged) {
				t.Errorf("entry %d or the items, or what is behind them, was changed with memo %d", j, i)
			}
		}
	}
}

func TestChecksLeaveTheirArguments(t *testing.T) {
	memos := oddMemos()
	for i, p := range append(stillPrograms(t), append(closePrograms()[:30], impl.Program{}, setProgram(6, 6, 6))...) {
		_, own, _ := impl.CheckFresh(p)
		for j, m := range []impl.Memo{own, {Entries: some(own.Entries, i, 2)}, memos[i%len(memos)], {Entries: toldMany(18, 18)}} {
			p, codes := roomy(p)
			given, room := roomyMemo(m)
			behind := given.Entries[:len(given.Entries)+2]
			one, oneRoom := roomyEntry(impl.Entry{Key: newKey, Foot: []int{0, 8, 16}})
			wasCodes, was, wasBehind, wasOne := cloned(impl.Program{Code: codes}).Code, clonedEntries(room), clonedEntries(behind), clonedEntry(oneRoom)
			for _, call := range callsOfChecks(p, given, one) {
				call()
			}
			impl.NewEntries(given, given)
			impl.NewEntries(impl.Memo{}, given)
			if !sameRoom(codes, wasCodes) || !sameEntries(room, was) || !sameEntries(behind, wasBehind) || !sameEntry(oneRoom, wasOne) {
				t.Errorf("program %d, its memo %d or an entry, or what is behind it, was changed", i, j)
			}
		}
	}
}

// roomyRegress has room behind the end of each of its lists; with it, what tells all
// of that room.
func roomyRegress(r impl.Regress) (impl.Regress, func() string) {
	p, codes := roomy(r.Facts.Program)
	base, baseCodes := roomy(r.Facts.Base)
	m, entries := roomyMemo(r.Facts.Memo)
	bugs := append(slices.Clone(r.Bugs), impl.Bug{Kind: 13, Pc: 1}, impl.Bug{Kind: 12})
	baseBugs := append(slices.Clone(r.Facts.BaseBugs), impl.Bug{Kind: 13, Pc: 1}, impl.Bug{Kind: 12})
	r.Facts.Program, r.Facts.Base, r.Facts.Memo = p, base, m
	r.Facts.BaseBugs, r.Bugs = baseBugs[:len(r.Facts.BaseBugs)], bugs[:len(r.Bugs)]
	behind := m.Entries[:len(m.Entries)+2]
	return r, func() string { return fmt.Sprint(codes, baseCodes, entries, behind, bugs, baseBugs, r) }
}

func TestRegressesThatAreHandedInStayAsTheyWere(t *testing.T) {
	acts := oddActs()
	for i, r := range oddRegresses() {
		given, told := roomyRegress(r)
		was := told()
		for j := range acts {
			if i >= 15 && j%5 != i%5 {
				continue
			}
			a := acts[j]
			program, codes := roomy(a.Program)
			a.Program = program
			wasCodes := cloned(impl.Program{Code: codes}).Code
			for _, call := range callsOfRegress(given, given, a) {
				call()
			}
			impl.ActOK(a)
			if told() != was || !sameRoom(codes, wasCodes) || !alike(a.Program, acts[j].Program) {
				t.Errorf("regression %d or act %d, or what is behind its lists, was changed", i, j)
			}
		}
	}
}

func TestActsAndRecordsThatAreHandedInStayAsTheyWere(t *testing.T) {
	for i, list := range oddActLists() {
		room := append(slices.Clone(list), submitted(holds()), act(2))
		for j := range room[:min(len(list), 20)] {
			room[j].Program, _ = roomy(room[j].Program)
		}
		was := fmt.Sprint(room)
		for _, call := range callsOfActs(room[:len(list)]) {
			call()
		}
		if fmt.Sprint(room) != was {
			t.Errorf("acts %d, or what is behind them, were changed", i)
		}
	}
	for i, list := range oddRecordLists() {
		room := append(slices.Clone(list), smallestRecord(), greatestRecord())
		was := slices.Clone(room)
		for _, call := range callsOfRecords(room[:len(list)]) {
			call()
		}
		if !slices.Equal(room, was) {
			t.Errorf("records %d, or what is behind them, were changed", i)
		}
	}
}

// wantOwnMemory spoils one list of an answer, behind its end too, and asks
// whether another list, the argument or another answer changed with it.
func wantOwnMemory(t *testing.T, name string, given *impl.Vm, answer func() impl.Vm) {
	t.Helper()
	want := numbersOfVm(answer())
	for part := range 4 {
		wasGiven := numbersOfVm(*given)
		one, other := answer(), answer()
		rest := slices.Clone(listsOf(&one))
		spoiled := *rest[part]
		for i := range spoiled[:cap(spoiled)] {
			spoiled[:cap(spoiled)][i] = -1
		}
		for i, list := range rest {
			if i != part && slices.Contains(*list, -1) {
				t.Errorf("%s: list %d changed with list %d", name, i, part)
			}
		}
		if !slices.Equal(numbersOfVm(*given), wasGiven) {
			t.Errorf("%s: the argument changed with the answer", name)
		}
		if !slices.Equal(numbersOfVm(other), want) || !slices.Equal(numbersOfVm(answer()), want) {
			t.Errorf("%s: an answer changed with another one", name)
		}
	}
}

func TestStatesOfAnswersShareNoMemory(t *testing.T) {
	p, _ := impl.ReadProgram([]string{"0 lock 0", "1 set 0 1"})
	s := vmOfKey("000" + "1234" + "20" + "567890")
	wantOwnMemory(t, "NewVm", &s, impl.NewVm)
	wantOwnMemory(t, "VmOf", &s, func() impl.Vm { x, _ := impl.VmOf("123456712654321"); return x })
	for k, want := range []int{impl.ErrBlocked, impl.OK, impl.ErrDone} {
		if _, _, code := impl.StepVm(p, s, k); code != want {
			t.Errorf("StepVm of %d: %d, not %d", k, code, want)
		}
		wantOwnMemory(t, "StepVm", &s, func() impl.Vm { x, _, _ := impl.StepVm(p, s, k); return x })
	}
	one, _ := impl.EnabledOf(jumping(0, 6, 0, 6), impl.NewVm())
	other, _ := impl.EnabledOf(jumping(0, 6, 0, 6), impl.NewVm())
	clear(one[:cap(one)])
	if !slices.Equal(other, []int{0, 2}) {
		t.Error("a list of threads changed with another one", other)
	}
}

func TestRunsOfAnswersShareNoMemory(t *testing.T) {
	p, _ := impl.ReadProgram([]string{"0 assert 0 1", "1 unlock 0", "1 assert 1 3", "2 lock 0", "2 lock 0"})
	for _, list := range [][]int{nil, {2, 1, 1, 0}, {2, 1, 1, 0, 0}, {0, 1, 7}} {
		_, want, wantCode := plainRun(p, list)
		none := impl.Vm{}
		wantOwnMemory(t, "RunSchedule", &none, func() impl.Vm { s, _, _ := impl.RunSchedule(p, list); return s })
		_, one, _ := impl.RunSchedule(p, list)
		_, other, _ := impl.RunSchedule(p, list)
		clear(one[:cap(one)])
		_, third, code := impl.RunSchedule(p, list)
		if !slices.Equal(other, want) || !slices.Equal(third, want) || code != wantCode {
			t.Error("bugs changed with those of another answer")
		}
	}
}

func TestTracesOfAnswersShareNoMemory(t *testing.T) {
	for i, p := range closePrograms()[:60] {
		list := turns(p, i)
		was := slices.Clone(list)
		for range 2 { // once more, behind what was spoiled
			events := wantTrace(t, p, list)
			gotEvents, _ := impl.EventsOf(p, list)
			order, _ := impl.OrderOf(p, list)
			normal, _ := impl.NormalOf(p, list)
			others := [][]int{}
			for range 2 {
				other, _ := impl.NormalOf(p, list)
				others = append(others, other)
			}
			clear(gotEvents[:cap(gotEvents)])
			clear(order[:cap(order)])
			for n := range normal[:cap(normal)] {
				normal[:cap(normal)][n] = -1
			}
			if !slices.Equal(list, was) || !slices.Equal(others[0], others[1]) || !slices.Equal(others[0], plainNormal(events)) {
				t.Error("the schedule or an answer changed with another answer")
			}
		}
	}
}

func TestAllStatesOfAnswersShareNoMemory(t *testing.T) {
	for _, p := range append(closePrograms()[:60], stillPrograms(t)...) {
		all := plainSpace(p)
		finds := plainFinds(p, all)
		for range 2 { // once more, behind what was spoiled
			keys, _ := impl.AllStates(p)
			bugs, _ := impl.AllBugs(p)
			otherKeys, _ := impl.AllStates(p)
			otherBugs, _ := impl.AllBugs(p)
			clear(keys[:cap(keys)])
			clear(bugs[:cap(bugs)])
			if !slices.Equal(otherKeys, keysOf(all)) || !slices.Equal(otherBugs, bugsOf(finds)) {
				t.Error("states or bugs changed with those of another answer")
			}
			for b, way := range finds {
				one, _ := impl.WitnessOf(p, b)
				other, _ := impl.WitnessOf(p, b)
				for n := range one[:cap(one)] {
					one[:cap(one)][n] = -1
				}
				if !slices.Equal(other, way) {
					t.Error("a schedule changed with that of another answer")
				}
			}
		}
	}
}

func TestSleepOfAnswersSharesNoMemory(t *testing.T) {
	for _, p := range append(closePrograms()[:60], stillPrograms(t)...) {
		want := plainSleep(p)
		one, _ := impl.SleepSearch(p)
		other, _ := impl.SleepSearch(p)
		clear(one.Bugs[:cap(one.Bugs)])
		third, _ := impl.SleepSearch(p)
		if want.nodes <= 5000 && (!slices.Equal(other.Bugs, want.bugs) || !slices.Equal(third.Bugs, want.bugs)) {
			t.Error("bugs changed with those of another answer")
		}
	}
	p := programOfNobody()
	for _, sleep := range [][]int{{0}, {0, 1}, {1, 0}, {0, 1, 0, 1}, {2, 0}, {0, 1, 2}} {
		was := slices.Clone(sleep)
		one, _ := impl.StillSleeps(p, impl.NewVm(), sleep, 2)
		other, _ := impl.StillSleeps(p, impl.NewVm(), sleep, 2)
		for n := range one[:cap(one)] {
			one[:cap(one)][n] = -1
		}
		third, _ := impl.StillSleeps(p, impl.NewVm(), sleep, 2)
		want, _ := plainStill(p, newKey, was, 2)
		if !slices.Equal(sleep, was) || !slices.Equal(other, want) || !slices.Equal(third, want) {
			t.Error("sleepers changed with those of an answer", sleep)
		}
	}
}

// wantOwnList spoils a list that is answered, behind its end too, and asks whether
// another answer or an argument changed with it.
func wantOwnList(t *testing.T, name string, want []int, answer func() []int, given ...[]int) {
	t.Helper()
	was := slices.Concat(given...)
	one, other := answer(), answer()
	for n := range one[:cap(one)] {
		one[:cap(one)][n] = -1
	}
	if third := answer(); !slices.Equal(other, want) || !slices.Equal(third, want) {
		t.Errorf("%s: an answer changed with another one: %v, %v, not %v", name, other, third, want)
	}
	if !slices.Equal(slices.Concat(given...), was) {
		t.Errorf("%s: an argument changed with the answer", name)
	}
}

func TestFeetOfAnswersShareNoMemory(t *testing.T) {
	for i, p := range append(closePrograms()[:60], stillPrograms(t)...) {
		keys := keysOf(plainSpace(p))
		key := keys[i%len(keys)]
		s := vmOfKey(key)
		foot, _ := plainFoot(p, key)
		wantOwnList(t, "LooksAt", plainLooks(key), func() []int { list, _ := impl.LooksAt(p, s); return list }, s.Pcs, s.Vars, s.Held, s.Regs)
		wantOwnList(t, "FootOf", foot, func() []int { list, _ := impl.FootOf(p, s); return list }, s.Pcs, s.Vars, s.Held, s.Regs)
	}
	for _, a := range itemLists() {
		for _, b := range itemLists() {
			wantOwnList(t, "MergeItems", plainUnion(a, b), func() []int { list, _ := impl.MergeItems(a, b); return list }, a, b)
		}
	}
}

func TestVersionsOfAnswersShareNoMemory(t *testing.T) {
	texts := plainInstrs()
	for i, p := range append(closePrograms()[:60], stillPrograms(t)...) {
		for _, q := range versionsOf(p, i) {
			items, lines := plainDiff(p, q, texts)
			wantOwnList(t, "ChangedItems", items, func() []int { list, _ := impl.ChangedItems(p, q); return list })
			one, _ := impl.DiffText(p, q)
			other, _ := impl.DiffText(p, q)
			clear(one[:cap(one)])
			third, _ := impl.DiffText(p, q)
			if !slices.Equal(other, lines) || !slices.Equal(third, lines) {
				t.Error("DiffText: an answer changed with another one")
			}
		}
	}
}

// spoilEntry writes over all the memory of an entry's lists, of the one or the other.
func spoilEntry(e impl.Entry, bugs bool) {
	if bugs {
		for i := range e.Bugs[:cap(e.Bugs)] {
			e.Bugs[:cap(e.Bugs)][i] = impl.Bug{Kind: -1}
		}
		return
	}
	for i := range e.Foot[:cap(e.Foot)] {
		e.Foot[:cap(e.Foot)][i] = -1
	}
}

// wantOwnEntries spoils one list of an answer after the other, and asks whether
// another list of it, another answer or an argument changed with it.
func wantOwnEntries(t *testing.T, name string, want []impl.Entry, answer func() []impl.Entry, given ...[]impl.Entry) {
	t.Helper()
	was := clonedEntries(slices.Concat(given...))
	check := func(at int, one, other []impl.Entry) {
		t.Helper()
		for i := range one {
			if i != at && !sameEntry(one[i], want[i]) {
				t.Errorf("%s: entry %d changed with entry %d", name, i, at)
			}
		}
		if !sameEntries(other, want) || !sameEntries(answer(), want) {
			t.Errorf("%s: an answer changed with another one", name)
		}
		if !sameEntries(slices.Concat(given...), was) {
			t.Errorf("%s: an argument changed with the answer", name)
		}
	}
	for at := range want {
		one, other := answer(), answer()
		spoilEntry(one[at], true)
		if !slices.Equal(one[at].Foot, want[at].Foot) {
			t.Errorf("%s: a foot changed with its bugs", name)
		}
		spoilEntry(one[at], false)
		check(at, one, other)
		again := answer()
		spoilEntry(again[at], false)
		if !slices.Equal(again[at].Bugs, want[at].Bugs) {
			t.Errorf("%s: bugs changed with their foot", name)
		}
	}
	one, other := answer(), answer()
	clear(one[:cap(one)])
	check(-1, nil, other)
}

func TestEntriesOfAnswersShareNoMemory(t *testing.T) {
	for n := range 9 {
		m := someMemo(n, n*11+20)
		for i, e := range m.Entries {
			found := func() []impl.Entry { x, _ := impl.FindEntry(m, e.Key); return []impl.Entry{x} }
			wantOwnEntries(t, "FindEntry", []impl.Entry{e}, found, m.Entries)
			text := plainEntryText(e)
			wantOwnEntries(t, "ReadEntry", []impl.Entry{e}, func() []impl.Entry { x, _ := impl.ReadEntry(text); return []impl.Entry{x} })
			over := someEntry(e.Key, 31+i)
			all := slices.Clone(m.Entries)
			all[i] = over
			put := func() []impl.Entry { x, _ := impl.PutEntry(m, over); return x.Entries }
			wantOwnEntries(t, "PutEntry over another one", all, put, m.Entries, []impl.Entry{over})
		}
		for _, e := range []impl.Entry{greatestEntry(), someEntry(newKey, 35)} {
			all := append([]impl.Entry{e}, m.Entries...)
			slices.SortFunc(all, func(a, b impl.Entry) int { return strings.Compare(a.Key, b.Key) })
			put := func() []impl.Entry { x, _ := impl.PutEntry(m, e); return x.Entries }
			wantOwnEntries(t, "PutEntry", all, put, m.Entries, []impl.Entry{e})
		}
		for _, changed := range [][]int{nil, {3}, {22, 9}} {
			var kept []impl.Entry
			for _, e := range m.Entries {
				if !impl.Touches(e.Foot, changed) {
					kept = append(kept, e)
				}
			}
			keep := func() []impl.Entry { x, _ := impl.KeepEntries(m, changed); return x.Entries }
			wantOwnEntries(t, "KeepEntries", kept, keep, m.Entries)
		}
	}
}

// withBugs has the bugs of a result as those of one more entry, so that they are
// held against all of the others.
func withBugs(r impl.Result, m impl.Memo) []impl.Entry {
	return append(slices.Clone(m.Entries), impl.Entry{Key: "the result", Bugs: r.Bugs})
}

func TestChecksOfAnswersShareNoMemory(t *testing.T) {
	p, given := manyBugs()
	want := plainCheck(p, given.Entries)
	rows := withBugs(impl.Result{Bugs: want.bugs}, impl.Memo{Entries: rowsOf(want.all)})
	if len(rows) != 4 || !tellsMany(rows[0]) {
		t.Error("not many bugs:", rows)
	}
	wantOwnEntries(t, "CheckAgain of many bugs", rows, func() []impl.Entry { r, all, _ := impl.CheckAgain(p, given); return withBugs(r, all) }, given.Entries)
	for i, p := range append(stillPrograms(t)[1:], closePrograms()[20:30]...) {
		_, m, _ := impl.CheckFresh(p)
		for few := 1; few < 4; few++ {
			given := impl.Memo{Entries: some(m.Entries, i, few)}
			if want := plainCheck(p, given.Entries); len(want.all) < 200 {
				rows := withBugs(impl.Result{Bugs: want.bugs}, impl.Memo{Entries: rowsOf(want.all)})
				wantOwnEntries(t, "CheckAgain", rows, func() []impl.Entry { r, all, _ := impl.CheckAgain(p, given); return withBugs(r, all) }, given.Entries)
			}
			want, _ := impl.NewEntries(given, m)
			rest := clonedEntries(want)
			wantOwnEntries(t, "NewEntries", rest, func() []impl.Entry { list, _ := impl.NewEntries(given, m); return list }, given.Entries, m.Entries)
		}
		if want := plainCheck(p, nil); len(want.all) < 200 {
			rows := withBugs(impl.Result{Bugs: want.bugs}, impl.Memo{Entries: rowsOf(want.all)})
			wantOwnEntries(t, "CheckFresh", rows, func() []impl.Entry { r, all, _ := impl.CheckFresh(p); return withBugs(r, all) })
		}
	}
}

// region is the memory of a list, behind its end too, or of a text.
type region struct {
	from, to uintptr
	what     string
	given    bool // in an argument
}

func regionOf[T any](what string, list []T) region {
	from := uintptr(unsafe.Pointer(unsafe.SliceData(list)))
	return region{from, from + uintptr(cap(list))*unsafe.Sizeof(*new(T)), what, false}
}

func regionOfText(what, text string) region {
	from := uintptr(unsafe.Pointer(unsafe.StringData(text)))
	return region{from, from + uintptr(len(text)), what, false}
}

func regionsOfProgram(what string, p impl.Program) []region {
	all := []region{regionOf(what, p.Code)}
	for k, code := range p.Code {
		all = append(all, regionOf(fmt.Sprint(what, ", thread ", k), code))
	}
	return all
}

func regionsOf(what string, r impl.Regress) []region {
	all := []region{regionOfText(what+", sure", r.Disk.Sure), regionOfText(what+", pending", r.Disk.Pending), regionOf(what+", bugs", r.Bugs), regionOf(what+", bugs of the base", r.Facts.BaseBugs), regionOf(what+", entries", r.Facts.Memo.Entries)}
	all = append(all, regionsOfProgram(what+", program", r.Facts.Program)...)
	all = append(all, regionsOfProgram(what+", base", r.Facts.Base)...)
	for i, e := range r.Facts.Memo.Entries {
		name := fmt.Sprint(what, ", entry ", i)
		all = append(all, regionOfText(name+", key", e.Key), regionOf(name+", bugs", e.Bugs), regionOf(name+", foot", e.Foot))
	}
	return all
}

func given(all ...region) []region {
	for i := range all {
		all[i].given = true
	}
	return all
}

// wantApart asks that no two regions share memory, unless both are in arguments; one
// byte may stand in memory of all.
func wantApart(t *testing.T, name string, all ...[]region) {
	t.Helper()
	list := slices.DeleteFunc(slices.Concat(all...), func(r region) bool { return r.to-r.from < 2 })
	slices.SortFunc(list, func(a, b region) int { return cmp.Compare(a.from, b.from) })
	last := map[bool]region{} // what reaches furthest, of arguments and of answers
	for _, r := range list {
		for _, before := range last {
			if r.from < before.to && !(r.given && before.given) {
				t.Errorf("%s: %s shares memory with %s", name, r.what, before.what)
			}
		}
		if r.to > last[r.given].to {
			last[r.given] = r
		}
	}
}

func TestRegressesOfAnswersShareNoMemory(t *testing.T) {
	acts, answered := oddActs()[:11], map[int]int{}
	for i, r := range oddRegresses() {
		for j, a := range acts {
			one, code := impl.ActDo(r, a)
			other, _ := impl.ActDo(r, a)
			answered[code]++
			arguments := given(append(regionsOf("the argument", r), regionsOfProgram("the act", a.Program)...)...)
			wantApart(t, fmt.Sprintf("regression %d, act %d, code %d", i, j, code), arguments, regionsOf("an answer", one), regionsOf("another one", other))
			runtime.KeepAlive([]impl.Regress{r, one, other})
		}
	}
	for _, code := range []int{impl.OK, impl.ErrBad, impl.ErrNone, impl.ErrUp, impl.ErrDown, impl.ErrFull} {
		if answered[code] == 0 {
			t.Error("no answer of code", code)
		}
	}
}

func TestRunsAndFoldsOfAnswersShareNoMemory(t *testing.T) {
	for i, list := range oddActLists() {
		one, codes, _ := impl.ActsRun(list)
		other, otherCodes, _ := impl.ActsRun(list)
		arguments := given(regionOf("acts", list))
		for _, a := range list {
			arguments = append(arguments, given(regionsOfProgram("an act", a.Program)...)...)
		}
		wantApart(t, fmt.Sprint("acts ", i), arguments, regionsOf("an answer", one), regionsOf("another one", other), []region{regionOf("codes", codes), regionOf("other codes", otherCodes)})
		runtime.KeepAlive([]impl.Regress{one, other})
	}
	for i, list := range oddRecordLists() {
		one, _ := impl.FoldLog(list)
		other, _ := impl.FoldLog(list)
		arguments := given(regionOf("records", list))
		for _, r := range list {
			arguments = append(arguments, given(regionOfText("a record", r.Text))...)
		}
		wantApart(t, fmt.Sprint("records ", i), arguments, regionsOf("an answer", impl.Regress{Facts: one}), regionsOf("another one", impl.Regress{Facts: other}))
		runtime.KeepAlive([]impl.Facts{one, other})
	}
}

// What is full is answered as it was, but not the memory of it.
func TestFullMemosOfAnswersShareNoMemory(t *testing.T) {
	m := someMemo(impl.MaxStates, 40)
	was := clonedEntries(m.Entries)
	put := func() []impl.Entry { x, _ := impl.PutEntry(m, impl.Entry{Key: newKey}); return x.Entries }
	one, other := put(), put()
	for at, e := range one {
		spoilEntry(e, true)
		if !slices.Equal(e.Foot, was[at].Foot) || at < impl.MaxStates-1 && !sameEntry(one[at+1], was[at+1]) {
			t.Errorf("a list changed with the bugs of entry %d", at)
		}
		spoilEntry(e, false)
	}
	clear(one[:cap(one)])
	if !sameEntries(other, was) || !sameEntries(put(), was) || !sameEntries(m.Entries, was) {
		t.Error("the memo or an answer changed with another answer")
	}
}

func TestMergedBugsShareNoMemory(t *testing.T) {
	for _, a := range oddBugLists() {
		for _, b := range oddBugLists() {
			wasA, wasB := slices.Clone(a), slices.Clone(b)
			one, _ := impl.MergeBugs(a, b)
			other, _ := impl.MergeBugs(a, b)
			was := slices.Clone(other)
			clear(one[:cap(one)])
			if !slices.Equal(a, wasA) || !slices.Equal(b, wasB) || !slices.Equal(other, was) {
				t.Error("an argument or an answer changed with another answer")
			}
		}
	}
}

// spoil writes over all the memory that a program has, behind the ends of its lists too.
func spoil(code []impl.Instr) {
	for i := range code[:cap(code)] {
		code[:cap(code)][i] = impl.Instr{Op: -1, A: -1, B: -1}
	}
}

func TestProgramsOfAnswersShareNoMemory(t *testing.T) {
	for _, want := range rightPrograms()[100:200] {
		lines := plainLines(want)
		packed := plainList(plainNumbers(want))
		readers := []func() impl.Program{
			func() impl.Program { p, _ := impl.ReadProgram(lines); return p },
			func() impl.Program { p, _ := impl.UnpackProgram(packed); return p },
		}
		for _, read := range readers {
			for k := range 3 {
				one, other := read(), read()
				spoil(one.Code[k])
				for rest := range 3 {
					if rest != k && !slices.Equal(one.Code[rest], want.Code[rest]) {
						t.Errorf("the code of thread %d changed with that of %d", rest, k)
					}
				}
				if third := read(); !alike(other, want) || !alike(third, want) {
					t.Error("an answer changed with another one")
				}
			}
		}
	}
}

func TestLinesOfAnswersShareNoMemory(t *testing.T) {
	for _, p := range rightPrograms()[100:200] {
		one, _ := impl.ProgramText(p)
		other, _ := impl.ProgramText(p)
		clear(one[:cap(one)])
		third, _ := impl.ProgramText(p)
		if !slices.Equal(other, plainLines(p)) || !slices.Equal(third, plainLines(p)) {
			t.Error("an answer changed with another one")
		}
	}
}

func TestListsOfAnswersShareNoMemory(t *testing.T) {
	want := counted(300)
	packed := plainList(want)
	one, _ := impl.UnpackList(packed)
	other, _ := impl.UnpackList(packed)
	clear(one[:cap(one)])
	third, _ := impl.UnpackList(packed)
	if !slices.Equal(other, want) || !slices.Equal(third, want) {
		t.Error("an answer changed with another one")
	}
}

func TestCallsBesideOneAnother(t *testing.T) {
	calls := allCalls()
	want := make([]string, len(calls))
	for i, call := range calls {
		want[i] = call()
	}
	for worker := range 4 {
		t.Run(fmt.Sprint(worker), func(t *testing.T) {
			t.Parallel()
			for i, call := range calls {
				if got := call(); got != want[i] {
					t.Errorf("call %d answered %.60q, then %.60q", i, want[i], got)
				}
			}
		})
	}
}
