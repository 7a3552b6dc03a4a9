package tests

import (
	"fmt"
	"math"
	"slices"
	"strings"
	"testing"

	"loop.example/g00632/impl"
)

// plainBugList picks from all bugs in order: a right list is picked just as it is.
func plainBugList(list []impl.Bug) bool {
	return len(list) <= 30 && slices.Equal(plainMerge(list), list)
}

func plainCommit(list []impl.Bug) string {
	var numbers []int
	for _, b := range list {
		numbers = append(numbers, b.Kind, b.Thread, b.Pc)
	}
	return plainList(numbers)
}

// plainReadCommit reads what numbers a text has, and takes it only if that list's
// text is this one.
func plainReadCommit(text string) ([]impl.Bug, bool) {
	var numbers []int
	for rest := text; rest != ""; {
		n, size, code := plainRead(rest)
		if code != 0 {
			return nil, false
		}
		numbers, rest = append(numbers, n), rest[size:]
	}
	var list []impl.Bug
	for i := 1; i+2 < len(numbers); i += 3 {
		list = append(list, impl.Bug{Kind: numbers[i], Thread: numbers[i+1], Pc: numbers[i+2]})
	}
	return list, plainBugList(list) && plainCommit(list) == text
}

func plainRecordOK(r impl.Record) bool {
	ok := false
	switch r.Kind {
	case 1:
		_, ok = plainUnpack(r.Text)
	case 2:
		_, ok = plainReadEntry(r.Text)
	case 3:
		_, ok = plainReadCommit(r.Text)
	}
	return ok && len(r.Text) < 1000
}

func plainRecordText(r impl.Record) string {
	return plainFrame(fmt.Sprint(r.Kind) + r.Text)
}

// plainLog is the second writing of what is read: a frame is whole if its text,
// framed again, is what is there.
func plainLog(sure string) (list []impl.Record, used int) {
	for {
		rest := sure[used:]
		n, size, code := plainRead(rest)
		if code != 0 || n > 60000 || len(rest) < size+2+n {
			return list, used
		}
		text := rest[size+2 : size+2+n]
		if text == "" || plainFrame(text) != rest[:size+2+n] {
			return list, used
		}
		for kind := 1; kind <= 4; kind++ {
			r := impl.Record{Kind: kind, Text: text[1:]}
			if text[:1] == fmt.Sprint(kind) && plainRecordOK(r) {
				list, used = append(list, r), used+size+2+n
				break
			}
			if kind == 4 {
				return list, used
			}
		}
	}
}

func versionRecord(p impl.Program) impl.Record {
	return impl.Record{Kind: 1, Text: plainList(plainNumbers(p))}
}

func entryRecord(e impl.Entry) impl.Record {
	return impl.Record{Kind: 2, Text: plainEntryText(e)}
}

func commitRecord(list []impl.Bug) impl.Record {
	return impl.Record{Kind: 3, Text: plainCommit(list)}
}

// rightBugLists have all lengths, from both ends of all bugs, and every few of them.
func rightBugLists() [][]impl.Bug {
	bugs, _ := plainBugs()
	all := [][]impl.Bug{{}}
	for n := range 31 {
		all = append(all, bugs[:n], bugs[37-n:], bugs[(37-n)/2:(37-n)/2+n])
	}
	for step := 2; step < 12; step++ {
		var list []impl.Bug
		for i := step % 3; i < 37; i += step {
			list = append(list, bugs[i])
		}
		all = append(all, list)
	}
	return all
}

// mixedRecords have the three kinds in turns, empty ones and great ones.
func mixedRecords() []impl.Record {
	var all []impl.Record
	programs, entries, lists := rightPrograms(), rightEntries(), rightBugLists()
	for i := range 120 {
		all = append(all, versionRecord(programs[(i*37)%len(programs)]), entryRecord(entries[(i*29)%len(entries)]), commitRecord(lists[(i*13)%len(lists)]))
	}
	return all
}

func smallestRecord() impl.Record { return commitRecord(nil) }

func greatestRecord() impl.Record { return entryRecord(greatestEntry()) }

// logOf has records' frames behind one another, and the places where they end, with
// the log's beginning.
func logOf(list []impl.Record) (string, []int) {
	log, ends := "", []int{0}
	for _, r := range list {
		log += plainRecordText(r)
		ends = append(ends, len(log))
	}
	return log, ends
}

// someLogs are short: all kinds, alone, in all orders, one twice, and none at all.
func someLogs() [][]impl.Record {
	p := setProgram(1, 0, 2)
	v, e, c := versionRecord(p), entryRecord(impl.Entry{Key: newKey, Foot: []int{0, 9}}), commitRecord([]impl.Bug{{Kind: 12, Thread: 1}, {Kind: 14}})
	return [][]impl.Record{
		nil, {v}, {e}, {c}, {v, e, c}, {v, c, e}, {e, v, c}, {e, c, v}, {c, v, e}, {c, e, v},
		{v, v}, {e, e, e}, {c, c}, {smallestRecord(), smallestRecord(), v}, {greatestRecord(), c, greatestRecord()},
		{versionRecord(setProgram(0, 0, 0)), smallestRecord(), versionRecord(setProgram(6, 6, 6))},
		mixedRecords()[6:12],
	}
}

// wantLog holds what is read of a disk, and what it is recovered to, against the
// first n records.
func wantLog(t *testing.T, name string, d impl.Disk, list []impl.Record, used int) {
	t.Helper()
	got, size, code := impl.ReadLog(d)
	if !slices.Equal(got, list) || size != used || code != 0 {
		t.Errorf("%s: ReadLog has %d records of %d bytes, %d, not %d of %d", name, len(got), size, code, len(list), used)
	}
	back, code := impl.RecoverLog(d)
	want, wantCode := impl.Disk{Sure: d.Sure[:used]}, 0
	if d.Pending != "" {
		want, wantCode = impl.Disk{}, impl.ErrBad
	}
	if back != want || code != wantCode {
		t.Errorf("%s: RecoverLog is %s, %d, not %s, %d", name, sizes(back), code, sizes(want), wantCode)
	}
}

// wantPlainLog tells how many records were read.
func wantPlainLog(t *testing.T, name, sure string) int {
	t.Helper()
	list, used := plainLog(sure)
	wantLog(t, name, impl.Disk{Sure: sure}, list, used)
	return len(list)
}

func wantRecord(t *testing.T, r impl.Record) {
	t.Helper()
	want := plainRecordText(r)
	if !plainRecordOK(r) || !impl.RecordOK(r) {
		t.Errorf("RecordOK of %d, %q is %v", r.Kind, r.Text, impl.RecordOK(r))
	}
	if text, code := impl.RecordText(r); text != want || code != 0 {
		t.Errorf("RecordText of %d, %q is %q, %d, not %q", r.Kind, r.Text, text, code, want)
	}
	for _, d := range []impl.Disk{{}, {Sure: "abc"}, {Sure: "a", Pending: "bc"}, {Pending: want}} {
		got, code := impl.AppendRecord(d, r)
		wantDisk(t, "AppendRecord", d, got, code, impl.Disk{Sure: d.Sure, Pending: d.Pending + want}, impl.OK)
	}
	wantLog(t, "one record", impl.Disk{Sure: want}, []impl.Record{r}, len(want))
}

// disksOfWrongRecords are right and wrong, and some are full: a record that is not
// right comes ahead of that.
var disksOfWrongRecords = []impl.Disk{{}, {Sure: "abc", Pending: "de"}, diskOf(30000, 30000), diskOf(60000, 1)}

func wantNoRecord(t *testing.T, r impl.Record) {
	t.Helper()
	if impl.RecordOK(r) {
		t.Errorf("RecordOK of %d, %.60q (%d) is true", r.Kind, r.Text, len(r.Text))
	}
	if text, code := impl.RecordText(r); text != "" || code != impl.ErrBad {
		t.Errorf("RecordText of %d, %.60q (%d) is %.60q, %d", r.Kind, r.Text, len(r.Text), text, code)
	}
	for _, d := range disksOfWrongRecords {
		if got, code := impl.AppendRecord(d, r); got != (impl.Disk{}) || code != impl.ErrBad {
			t.Errorf("AppendRecord of %d, %.60q (%d) is %s, %d", r.Kind, r.Text, len(r.Text), sizes(got), code)
		}
	}
}

// wantPlainRecord holds what may be a record or not against the plain rules.
func wantPlainRecord(t *testing.T, r impl.Record) bool {
	t.Helper()
	if !plainRecordOK(r) {
		wantNoRecord(t, r)
		return false
	}
	if text, code := impl.RecordText(r); !impl.RecordOK(r) || text != plainRecordText(r) || code != 0 {
		t.Errorf("RecordText of %d, %q is %q, %d", r.Kind, r.Text, text, code)
	}
	return true
}

func TestRecordsWrittenOut(t *testing.T) {
	if impl.RecVersion != 1 || impl.RecEntry != 2 || impl.RecCommit != 3 {
		t.Error("kinds of records:", impl.RecVersion, impl.RecEntry, impl.RecCommit)
	}
	rows := []struct {
		r     impl.Record
		frame string // its length, its sum, the digit, the text
	}{
		// 3, then 393 and 51, then 444 times 131 and 0: 58164, modulo 16381 it is 9021
		{impl.Record{Kind: 3, Text: "\x00"}, "\x02" + "\x23\x3d" + "3" + "\x00"},
		{impl.Record{Kind: 3, Text: "\x03\x0e\x00\x00"}, "\x05" + "\x03\x6a" + "3" + "\x03\x0e\x00\x00"},
		{impl.Record{Kind: 1, Text: "\x03\x00\x00\x00"}, "\x05" + "\x06\xc1" + "1" + "\x03\x00\x00\x00"},
		{impl.Record{Kind: 2, Text: newKey + "\x01\x00"}, "\x12" + "\x0e\xec" + "2" + newKey + "\x01\x00"},
	}
	for _, row := range rows {
		if text, code := impl.RecordText(row.r); text != row.frame || code != 0 {
			t.Errorf("RecordText of %d, %q is %q, %d, not %q", row.r.Kind, row.r.Text, text, code, row.frame)
		}
		wantRecord(t, row.r)
	}
	log := rows[2].frame + rows[3].frame + rows[1].frame + rows[0].frame
	want := []impl.Record{rows[2].r, rows[3].r, rows[1].r, rows[0].r}
	wantLog(t, "all of them", impl.Disk{Sure: log}, want, 8+21+8+5)
	wantLog(t, "torn in the last", impl.Disk{Sure: log[:41]}, want[:3], 37)
	wantLog(t, "torn behind the first", impl.Disk{Sure: log[:8]}, want[:1], 8)
	wantLog(t, "one bent", impl.Disk{Sure: log[:9] + "\x0f" + log[10:]}, want[:1], 8)
}

func TestRecordsThatAreRight(t *testing.T) {
	for i, p := range rightPrograms() {
		packed, code := impl.PackProgram(p)
		r := versionRecord(p)
		if r.Text != packed || code != 0 {
			t.Error("PackProgram", i, code)
		}
		wantRecord(t, r)
	}
	for i, e := range rightEntries() {
		text, code := impl.EntryText(e)
		r := entryRecord(e)
		if r.Text != text || code != 0 {
			t.Error("EntryText", i, code)
		}
		wantRecord(t, r)
	}
	for i, list := range rightBugLists() {
		text, code := impl.CommitText(list)
		r := commitRecord(list)
		if r.Text != text || code != 0 {
			t.Errorf("CommitText %d is %q, %d, not %q", i, text, code, r.Text)
		}
		wantRecord(t, r)
	}
}

func TestCommitTextsByHand(t *testing.T) {
	for text, list := range map[string][]impl.Bug{
		"\x00":                         nil,
		"\x03\x0c\x00\x00":             {{Kind: 12}},
		"\x03\x0d\x02\x05":             {{Kind: 13, Thread: 2, Pc: 5}},
		"\x03\x0e\x00\x00":             {{Kind: 14}},
		"\x06\x0c\x01\x03\x0e\x00\x00": {{Kind: 12, Thread: 1, Pc: 3}, {Kind: 14}},
	} {
		if got, code := impl.CommitText(list); got != text || code != 0 {
			t.Errorf("CommitText of %v is %q, %d, not %q", list, got, code, text)
		}
	}
	bugs, _ := plainBugs()
	for at := range 8 {
		text, code := impl.CommitText(bugs[at : at+30])
		if len(text) != 91 || text[0] != 90 || code != 0 {
			t.Errorf("CommitText of 30 bugs is %q, %d", text, code)
		}
	}
}

func TestCommitTextsOfWrongLists(t *testing.T) {
	wrong := func(list []impl.Bug, want int) {
		t.Helper()
		if text, code := impl.CommitText(list); text != "" || code != want {
			t.Errorf("CommitText of %d bugs, %.80v is %q, %d, not %d", len(list), list, text, code, want)
		}
	}
	for _, list := range wrongBugLists() {
		want := impl.ErrBad
		if len(list) > 4096 {
			want = impl.ErrLong
		}
		wrong(list, want)
	}
	bugs, _ := plainBugs()
	for n := 31; n <= 37; n++ {
		wrong(bugs[:n], impl.ErrBad)
		wrong(bugs[37-n:], impl.ErrBad)
	}
	for _, n := range []int{38, 4095, 4096} {
		wrong(someBugs(n, 1), impl.ErrBad)
		wrong(make([]impl.Bug, n), impl.ErrBad)
		wrong(slices.Repeat(bugs[:1], n), impl.ErrBad)
	}
	for _, n := range []int{4097, 4098, 70000} { // long comes ahead of bad
		wrong(someBugs(n, 1), impl.ErrLong)
		wrong(make([]impl.Bug, n), impl.ErrLong)
	}
}

func TestKindsThatAreNone(t *testing.T) {
	kinds := []int{math.MinInt, -1 << 32, -3, -2, -1, 0, 4, 5, 9, 10, 11, 12, 13, 31, 48, 49, 50, 51, 255, 256, 257, 258, 259, 1<<16 + 1, 1<<32 + 1, 1<<32 + 2, 1<<32 + 3, math.MaxInt}
	for _, kind := range kinds {
		for _, r := range append(mixedRecords()[:60], impl.Record{}, impl.Record{Text: "x"}) {
			wantNoRecord(t, impl.Record{Kind: kind, Text: r.Text})
			wantNoRecord(t, impl.Record{Kind: kind})
		}
	}
}

// The text of one kind is no other kind's.
func TestTextsOfAnotherKind(t *testing.T) {
	for _, r := range mixedRecords() {
		for kind := 1; kind <= 3; kind++ {
			if kind != r.Kind {
				wantNoRecord(t, impl.Record{Kind: kind, Text: r.Text})
			}
		}
	}
	for kind := range 5 {
		for _, text := range []string{"", "x", "1", "3\x00", plainFrame("3\x00"), plainRecordText(greatestRecord())} {
			wantNoRecord(t, impl.Record{Kind: kind, Text: text})
		}
	}
}

// Texts that are cut short, longer, or of another byte at one place.
func TestRecordsOfBentTexts(t *testing.T) {
	right, wrong := 0, 0
	count := func(r impl.Record) {
		t.Helper()
		if wantPlainRecord(t, r) {
			right++
		} else {
			wrong++
		}
	}
	for _, r := range append(mixedRecords()[6:12], smallestRecord(), commitRecord([]impl.Bug{{Kind: 12, Pc: 1}, {Kind: 13, Thread: 2, Pc: 4}, {Kind: 14}})) {
		for i := range len(r.Text) {
			count(impl.Record{Kind: r.Kind, Text: r.Text[:i]})
			count(impl.Record{Kind: r.Kind, Text: r.Text[i+1:]})
			count(impl.Record{Kind: r.Kind, Text: r.Text[:i] + r.Text[i+1:]})
			for b := range 256 {
				count(impl.Record{Kind: r.Kind, Text: r.Text[:i] + string([]byte{byte(b)}) + r.Text[i+1:]})
			}
		}
		for _, more := range []string{"\x00", "0", " ", "\n", "\x80", "\xff", "\x01\x00", r.Text} {
			wantNoRecord(t, impl.Record{Kind: r.Kind, Text: r.Text + more})
			wantNoRecord(t, impl.Record{Kind: r.Kind, Text: more + r.Text})
		}
	}
	if right < 100 || wrong < 5000 {
		t.Error("hardly any records of one kind:", right, wrong)
	}
}

// Right numbers of what is not right, whatever it is.
func TestRecordsOfWrongContent(t *testing.T) {
	for _, p := range wrongPrograms() {
		list := plainNumbers(p)
		if len(list) < 4000 && slices.IndexFunc(list, func(n int) bool { return n < 0 || n > impl.MaxNumber }) < 0 {
			wantNoRecord(t, versionRecord(p))
		}
	}
	for i, e := range wrongEntries() {
		if packable(e) && (i%5 == 0 || i < 300) {
			wantNoRecord(t, entryRecord(e))
		}
	}
	for _, list := range wrongBugLists() {
		if packable(impl.Entry{Bugs: list}) {
			wantNoRecord(t, commitRecord(list))
		}
	}
	for n := range 40 { // numbers that are no whole bugs
		list := slices.Repeat([]int{14, 0, 0}, 14)[:n]
		wantPlainRecord(t, impl.Record{Kind: 3, Text: plainList(list)})
	}
}

func TestRecordsOfOtherTexts(t *testing.T) {
	for _, text := range oddTexts() {
		for kind := range 5 {
			wantPlainRecord(t, impl.Record{Kind: kind, Text: text})
		}
	}
	for _, n := range []int{998, 999, 1000, 1001, 4000, 60000, 60001, 65535, 65536, 65537, 200000} {
		for kind := range 5 {
			for _, begin := range []string{"", "\x00", "\x03\x00\x00\x00", newKey + "\x01\x00", newKey, "\xe6\x07", "\xe5\x07"} {
				for _, fill := range []string{"\x00", "0", "\x0e\x00\x00", "\xff"} {
					wantNoRecord(t, impl.Record{Kind: kind, Text: (begin + strings.Repeat(fill, n))[:n]})
				}
			}
		}
	}
	// 997 numbers of a byte each take 999 bytes, 998 take 1000
	for _, n := range []int{996, 997, 998, 999} {
		for _, list := range [][]int{make([]int, n), slices.Repeat([]int{14, 0, 0}, 333)[:n]} {
			for kind := range 5 {
				wantNoRecord(t, impl.Record{Kind: kind, Text: plainList(list)})
				wantNoRecord(t, impl.Record{Kind: kind, Text: newKey + plainList(list[15:])})
			}
		}
	}
}

// What is laid down is read, one by one, with all the bytes that it has.
func TestRecordsAreReadBackOneByOne(t *testing.T) {
	d, used := impl.Disk{}, 0
	list := mixedRecords()
	for i, r := range list {
		laid, code := impl.AppendRecord(d, r)
		text := plainRecordText(r)
		wantDisk(t, "AppendRecord", d, laid, code, impl.Disk{Sure: d.Sure, Pending: text}, impl.OK)
		wantLog(t, "not flushed", laid, list[:i], used)
		d, _ = impl.FlushDisk(laid)
		used += len(text)
		wantLog(t, fmt.Sprint("record ", i), d, list[:i+1], used)
	}
	if len(d.Sure) != used || used < 15000 {
		t.Error("bytes of the log:", len(d.Sure), used)
	}
	for i, r := range list { // each one at the log's beginning
		got, size, code := impl.ReadLog(d)
		if len(got) != len(list)-i || got[0] != r || code != 0 {
			t.Fatal("record", i, len(got), code)
		}
		first := len(plainRecordText(r))
		if size != used {
			t.Error("bytes from record", i, size, used)
		}
		d, used = impl.Disk{Sure: d.Sure[first:]}, used-first
	}
}

func TestLogsThatAreCutAtEveryPlace(t *testing.T) {
	for at, list := range someLogs() {
		log, ends := logOf(list)
		whole := 0
		for n := range len(log) + 1 {
			if whole < len(list) && ends[whole+1] <= n {
				whole++
			}
			d, code := impl.CutDisk(impl.Disk{Sure: log}, n)
			if code != 0 {
				t.Error("CutDisk", n, code)
			}
			name := fmt.Sprintf("log %d cut at %d", at, n)
			wantLog(t, name, d, list[:whole], ends[whole])
			if wantPlainLog(t, name, log[:n]) != whole {
				t.Error(name, "is not as plainly")
			}
		}
		if whole != len(list) {
			t.Error("log", at, whole)
		}
	}
}

// A byte that is another one spoils the record that has it, and that alone of those
// ahead.
func TestLogsWithAByteBent(t *testing.T) {
	for at, list := range someLogs() {
		log, ends := logOf(list)
		for i := range list {
			for n := ends[i]; n < ends[i+1]; n++ {
				for b := range 256 {
					bent := log[:n] + string([]byte{byte(b)}) + log[n+1:]
					name := fmt.Sprintf("log %d with %d at %d", at, b, n)
					if bent == log {
						wantLog(t, name, impl.Disk{Sure: bent}, list, len(log))
						continue
					}
					wantLog(t, name, impl.Disk{Sure: bent}, list[:i], ends[i])
					if b%64 == 0 && wantPlainLog(t, name, bent) != i {
						t.Error(name, "is not as plainly")
					}
				}
			}
		}
	}
}

// What is torn is recovered, and what is laid down behind that is read with it.
func TestRecordsBehindWhatIsRecovered(t *testing.T) {
	for at, list := range someLogs() {
		log, ends := logOf(list)
		next := mixedRecords()[at*3%50:][:3]
		whole := 0
		for n := range len(log) + 1 {
			if whole < len(list) && ends[whole+1] <= n {
				whole++
			}
			for _, rest := range []string{"", "\x00", "\x05", "\xff\xff\xff", log[n:min(n+1, len(log))] + "?"} {
				torn := impl.Disk{Sure: log[:n] + rest}
				read, used := plainLog(torn.Sure)
				d, code := impl.RecoverLog(torn)
				if code != 0 || len(read) < whole || d.Sure != torn.Sure[:used] {
					t.Errorf("log %d, torn at %d: %s, %d", at, n, sizes(d), code)
				}
				if again, code := impl.RecoverLog(d); again != d || code != 0 {
					t.Errorf("log %d, torn at %d, recovered twice: %s, %d", at, n, sizes(again), code)
				}
				for _, r := range next {
					d, _ = impl.AppendRecord(d, r)
				}
				d, _ = impl.FlushDisk(d)
				behind, _ := logOf(next)
				wantLog(t, fmt.Sprintf("log %d, torn at %d, and three more", at, n), d, append(slices.Clone(read), next...), used+len(behind))
			}
		}
	}
}

// A crash in the midst of records that are pending: of these just a beginning.
func TestCrashesInTheMidstOfRecords(t *testing.T) {
	sure, pending := mixedRecords()[6:9], mixedRecords()[9:15]
	log, ends := logOf(append(slices.Clone(sure), pending...))
	d := impl.Disk{Sure: log[:ends[3]]}
	for _, r := range pending {
		d, _ = impl.AppendRecord(d, r)
	}
	if d.Sure+d.Pending != log {
		t.Error("what is pending:", sizes(d))
	}
	all := append(slices.Clone(sure), pending...)
	whole := 3
	for keep := range len(d.Pending) + 2 {
		if whole < 9 && ends[whole+1] <= ends[3]+keep {
			whole++
		}
		crashed, code := impl.CrashDisk(d, keep)
		if code != 0 {
			t.Error("CrashDisk", keep, code)
		}
		wantLog(t, fmt.Sprint("a crash that keeps ", keep), crashed, all[:whole], ends[whole])
	}
	if whole != 9 {
		t.Error("records of the last crash:", whole)
	}
}

// strangeFrames are whole, but hold no right record.
func strangeFrames() []string {
	texts := []string{"", "0", "1", "2", "3", "4", "5", " ", "\x00", "\x01", "\x02", "\x03", "\xff", "\u0661", "\u4e00", "33", "13", "\xc3"}
	for _, r := range append(mixedRecords()[:6], smallestRecord()) {
		for _, digit := range []string{"", "0", "4", "5", "9", "/", ":", "a", " ", "\x00", "\x01", "\x02", "\x03", "\x81", "\xb3", "\xff", "-1", "+", "-3", " 3", "3 ", "03", "33", "11", "22", "\u0131", "\u0132", "\u0133", "\u0661", "\u0663", "\uff13", "\U00010031", "\U00010033", "\U0001d7d1"} {
			texts = append(texts, digit+r.Text)
		}
		texts = append(texts, fmt.Sprint(r.Kind%3+1)+r.Text, fmt.Sprint(r.Kind)+r.Text+"\x00", fmt.Sprint(r.Kind)+r.Text[:len(r.Text)-1], r.Text+fmt.Sprint(r.Kind), plainRecordText(r))
	}
	for _, n := range []int{998, 999, 1000, 1001, 30000, 59000} {
		for kind := range 5 {
			texts = append(texts, fmt.Sprint(kind)+strings.Repeat("\x00", n), fmt.Sprint(kind)+(newKey + "\x01\x00" + long(n))[:n])
		}
	}
	var all []string
	for _, text := range texts {
		all = append(all, plainFrame(text))
	}
	return all
}

// strangeBytes are no whole frames.
func strangeBytes() []string {
	right := plainRecordText(smallestRecord())
	all := []string{"\x00", "\x02", "\x02\x23", "\x80", "\xff\xff\xff\xff\xff\xff", "\x00\x00\x00", "x", "\n", " ", strings.Repeat("\x00", 100), strings.Repeat("3", 100),
		"\x82\x00" + right[1:],                        // a length of more bytes than it takes
		right[:1] + "\x63\x3a" + right[3:],            // a sum that is right only modulo 16381
		right[:1] + right[2:3] + right[1:2] + "3\x00", // a sum the wrong way round
		"\x03" + right[1:], "\x01" + right[1:], "\x7f" + right[1:], "\xe1\xd4\x03" + right[1:]}
	for n := 1; n < len(right); n++ {
		all = append(all, right[:n], right[n:])
	}
	return all
}

// Nothing is read behind what is no record, though a right one stands there.
func TestBytesThatAreNoRecord(t *testing.T) {
	for at, list := range someLogs() {
		log, _ := logOf(list)
		behind, _ := logOf(mixedRecords()[:3])
		for _, strange := range append(strangeFrames(), strangeBytes()...) {
			if len(log)+len(strange)+len(behind) > 60000 {
				continue
			}
			name := fmt.Sprintf("log %d, then %.30q", at, strange)
			wantLog(t, name, impl.Disk{Sure: log + strange}, list, len(log))
			if len(strange) < 5000 && wantPlainLog(t, name, log+strange) != len(list) {
				t.Error(name, "is not as plainly")
			}
			if strings.HasPrefix("\x02\x23\x3d", strange) { // with what is behind it, it might be one
				continue
			}
			wantLog(t, name+" and records", impl.Disk{Sure: log + strange + behind}, list, len(log))
		}
	}
}

func TestLogsOfOddBytes(t *testing.T) {
	read := 0
	record := plainRecordText(smallestRecord())
	for _, text := range oddTexts() {
		if len(text) <= 50000 {
			read += wantPlainLog(t, "odd bytes", text)
			read += wantPlainLog(t, "odd bytes behind a record", record+text)
			read += wantPlainLog(t, "odd bytes between records", record+text+record)
		}
	}
	if read < 600 {
		t.Error("hardly any records:", read)
	}
}

func TestLogsOfDisks(t *testing.T) {
	wantLog(t, "nothing", impl.Disk{}, nil, 0)
	for _, d := range rightDisks() {
		list, used := plainLog(d.Sure)
		wantLog(t, sizes(d), d, list, used)
	}
	log, ends := logOf(mixedRecords()[:9])
	for i, pending := range []string{"x", "\x00", log, log[:ends[1]], log[:3], marked(60000-len(log), "p")} {
		wantLog(t, fmt.Sprint("with something pending ", i), impl.Disk{Sure: log, Pending: pending}, mixedRecords()[:9], len(log))
		wantLog(t, fmt.Sprint("with all pending ", i), impl.Disk{Pending: pending}, nil, 0)
		torn := impl.Disk{Sure: log[:ends[4]+3], Pending: log[ends[4]+3:]} // whole with what is pending
		wantLog(t, fmt.Sprint("torn, with something pending ", i), torn, mixedRecords()[:4], ends[4])
	}
}

func TestWrongDisksOfLogs(t *testing.T) {
	log, _ := logOf(mixedRecords()[:9])
	wrong := append(wrongDisks(), impl.Disk{Sure: log + marked(60001-len(log), "s")}, impl.Disk{Sure: log, Pending: marked(60001-len(log), "p")}, impl.Disk{Sure: log, Pending: long(70000)})
	for _, d := range wrong {
		list, used, code := impl.ReadLog(d)
		if len(list) != 0 || used != 0 || code != impl.ErrBad {
			t.Errorf("ReadLog of %s is %d records, %d, %d", sizes(d), len(list), used, code)
		}
		if got, code := impl.RecoverLog(d); got != (impl.Disk{}) || code != impl.ErrBad {
			t.Errorf("RecoverLog of %s is %s, %d", sizes(d), sizes(got), code)
		}
		for _, r := range []impl.Record{smallestRecord(), greatestRecord(), versionRecord(setProgram(6, 6, 6)), {}, {Kind: 3}, {Kind: 2, Text: long(65537)}} {
			if got, code := impl.AppendRecord(d, r); got != (impl.Disk{}) || code != impl.ErrBad {
				t.Errorf("AppendRecord to %s is %s, %d", sizes(d), sizes(got), code)
			}
		}
	}
}

// A record that fills a disk just, and one that is a byte too long for it.
func TestRecordsOfFullDisks(t *testing.T) {
	records := append(mixedRecords()[:12], smallestRecord(), greatestRecord())
	for i, r := range records {
		text := plainRecordText(r)
		for _, sure := range []int{0, 1, 30000, 60000 - len(text)} {
			for more := -1; more <= len(text); more += 1 + more/2 {
				pending := 60000 - len(text) - sure + more
				if pending < 0 {
					continue
				}
				d := diskOf(sure, pending)
				want, wantCode := impl.Disk{Sure: d.Sure, Pending: d.Pending + text}, impl.OK
				if more > 0 {
					want, wantCode = d, impl.ErrFull
				}
				got, code := impl.AppendRecord(d, r)
				wantDisk(t, fmt.Sprintf("AppendRecord %d, %d too long", i, more), d, got, code, want, wantCode)
			}
		}
	}
}

// All that is there is filled with records of five bytes each: more of them than a
// list that is handed in may have.
func TestLogsOfManyRecords(t *testing.T) {
	text := plainRecordText(smallestRecord())
	list := slices.Repeat([]impl.Record{smallestRecord()}, 12000)
	full := strings.Repeat(text, 12000)
	wantLog(t, "a full log", impl.Disk{Sure: full}, list, 60000)
	for n := 59994; n < 60000; n++ {
		wantLog(t, fmt.Sprint("all but ", n), impl.Disk{Sure: full[:n]}, list[:n/5], n/5*5)
	}
	if got, code := impl.AppendRecord(impl.Disk{Sure: full}, smallestRecord()); got.Sure != full || got.Pending != "" || code != impl.ErrFull {
		t.Error("AppendRecord to a full log:", sizes(got), code)
	}
	if got, code := impl.AppendRecord(impl.Disk{Sure: full[:59995]}, smallestRecord()); got.Sure != full[:59995] || got.Pending != text || code != impl.OK {
		t.Error("AppendRecord that fills a log:", sizes(got), code)
	}
	great := plainRecordText(greatestRecord())
	n := 60000 / len(great)
	d := impl.Disk{Sure: strings.Repeat(great, n)}
	wantLog(t, "great ones", d, slices.Repeat([]impl.Record{greatestRecord()}, n), n*len(great))
	for len(d.Sure)+len(text) <= 60000 {
		d.Sure += text
	}
	smaller := (60000 - n*len(great)) / 5
	wantLog(t, "great ones and small ones", d, append(slices.Repeat([]impl.Record{greatestRecord()}, n), list[:smaller]...), n*len(great)+smaller*5)
}

func TestLogsOfAnswersShareNoMemory(t *testing.T) {
	all := mixedRecords()[:30]
	log, _ := logOf(all)
	d := impl.Disk{Sure: log + "torn"}
	one, _, _ := impl.ReadLog(d)
	other, _, _ := impl.ReadLog(d)
	var texts []string
	for i := range one {
		texts = append(texts, one[i].Text, other[i].Text)
	}
	clear(one[:cap(one)])
	third, _, _ := impl.ReadLog(d)
	if !slices.Equal(other, all) || !slices.Equal(third, all) {
		t.Error("records changed with those of another answer")
	}
	var answers []impl.Disk
	for i := range texts {
		answers = append(answers, impl.Disk{Sure: texts[i]})
	}
	for _, r := range all[:12] {
		for _, from := range []impl.Disk{{}, {Sure: log}, {Sure: log, Pending: log}, {Sure: log, Pending: marked(60000-len(log), "p")}} {
			laid, _ := impl.AppendRecord(from, r)
			text, _ := impl.RecordText(r)
			answers = append(answers, laid, impl.Disk{Sure: text})
			wantOwnTexts(t, []impl.Disk{laid, {Sure: text}}, from.Sure, from.Pending, r.Text)
		}
	}
	for _, list := range rightBugLists()[:20] {
		text, _ := impl.CommitText(list)
		answers = append(answers, impl.Disk{Sure: text})
	}
	for _, from := range []impl.Disk{d, {Sure: log}} {
		for range 2 {
			back, _ := impl.RecoverLog(from)
			answers = append(answers, back)
		}
	}
	wantOwnTexts(t, answers, d.Sure, log)
}
