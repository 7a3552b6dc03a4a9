package tests

import (
	"fmt"
	"maps"
	"math"
	"slices"
	"strings"
	"testing"

	"loop.example/g00632/impl"
)

// plainKeyOK holds a key byte by byte against the greatest one.
func plainKeyOK(key string) bool {
	if len(key) != 15 {
		return false
	}
	for i := range len(key) {
		if key[i] < '0' || key[i] > greatestOfKey[i] {
			return false
		}
	}
	return true
}

// plainEntryOK picks what a list holds from all bugs and all items, in order: a
// right list is picked just as it is.
func plainEntryOK(e impl.Entry) bool {
	return plainKeyOK(e.Key) && len(e.Bugs) <= 30 && slices.Equal(plainMerge(e.Bugs), e.Bugs) && slices.Equal(plainUnion(e.Foot), e.Foot)
}

func plainEntryText(e impl.Entry) string {
	list := []int{len(e.Bugs)}
	for _, b := range e.Bugs {
		list = append(list, b.Kind, b.Thread, b.Pc)
	}
	return e.Key + plainList(append(list, e.Foot...))
}

// plainReadEntry reads what numbers a text has, and takes it only if that entry's
// text is this one.
func plainReadEntry(text string) (impl.Entry, bool) {
	if len(text) < 15 {
		return impl.Entry{}, false
	}
	e := impl.Entry{Key: text[:15]}
	var numbers []int
	for rest := text[15:]; rest != ""; {
		n, size, code := plainRead(rest)
		if code != 0 {
			return impl.Entry{}, false
		}
		numbers = append(numbers, n)
		rest = rest[size:]
	}
	if len(numbers) < 2 || numbers[1] > 30 || len(numbers) < 2+3*numbers[1] {
		return impl.Entry{}, false
	}
	for i := range numbers[1] {
		e.Bugs = append(e.Bugs, impl.Bug{Kind: numbers[2+3*i], Thread: numbers[3+3*i], Pc: numbers[4+3*i]})
	}
	e.Foot = numbers[2+3*numbers[1]:]
	return e, plainEntryOK(e) && plainEntryText(e) == text
}

func sameEntry(a, b impl.Entry) bool {
	return a.Key == b.Key && slices.Equal(a.Bugs, b.Bugs) && slices.Equal(a.Foot, b.Foot)
}

func sameEntries(a, b []impl.Entry) bool {
	return slices.EqualFunc(a, b, sameEntry)
}

func isZeroEntry(e impl.Entry) bool {
	return sameEntry(e, impl.Entry{})
}

func clonedEntry(e impl.Entry) impl.Entry {
	return impl.Entry{Key: e.Key, Bugs: slices.Clone(e.Bugs), Foot: slices.Clone(e.Foot)}
}

func clonedEntries(list []impl.Entry) []impl.Entry {
	var out []impl.Entry
	for _, e := range list {
		out = append(out, clonedEntry(e))
	}
	return out
}

// rowsOf has a map's entries by their keys, rising.
func rowsOf(all map[string]impl.Entry) []impl.Entry {
	var list []impl.Entry
	for _, key := range slices.Sorted(maps.Keys(all)) {
		list = append(list, all[key])
	}
	return list
}

// manyKeys has n keys of states, rising; a plain rule makes them, so that each run
// has the same ones.
func manyKeys(n int) []string {
	there := map[string]bool{}
	state := uint32(5)
	for len(there) < n {
		key := ""
		for i := range greatestOfKey {
			state = state*1664525 + 1013904223
			key += fmt.Sprint(state >> 20 % uint32(greatestOfKey[i]-'0'+1))
		}
		there[key] = true
	}
	return slices.Sorted(maps.Keys(there))
}

// someEntry has few or many bugs and items, none of them too, as the seed has it.
func someEntry(key string, seed int) impl.Entry {
	e := impl.Entry{Key: key}
	bugs, _ := plainBugs()
	for i, b := range bugs {
		if (i*7+seed*5)%11 < seed%12 && len(e.Bugs) < 30 {
			e.Bugs = append(e.Bugs, b)
		}
	}
	for i, item := range everyItem() {
		if (i*5+seed*3)%9 < seed/2%10 {
			e.Foot = append(e.Foot, item)
		}
	}
	return e
}

func someMemo(n, seed int) impl.Memo {
	var m impl.Memo
	for i, key := range manyKeys(n) {
		m.Entries = append(m.Entries, someEntry(key, seed+i))
	}
	return m
}

func greatestEntry() impl.Entry {
	bugs, _ := plainBugs()
	return impl.Entry{Key: greatestOfKey, Bugs: bugs[7:], Foot: everyItem()}
}

// rightEntries have bugs and feet of all lengths, at the edges of keys.
func rightEntries() []impl.Entry {
	bugs, _ := plainBugs()
	all := []impl.Entry{{Key: newKey}, {Key: greatestOfKey}, greatestEntry(), {Key: newKey, Bugs: []impl.Bug{}, Foot: []int{}}}
	for n := range 31 {
		all = append(all, impl.Entry{Key: newKey, Bugs: bugs[:n]}, impl.Entry{Key: greatestOfKey, Bugs: bugs[37-n:], Foot: []int{22}})
	}
	for n := range 22 {
		all = append(all, impl.Entry{Key: newKey, Foot: everyItem()[:n]}, impl.Entry{Key: greatestOfKey, Bugs: bugs[36:], Foot: everyItem()[21-n:]})
	}
	for i, key := range rightKeys() {
		all = append(all, someEntry(key, i))
	}
	return all
}

func wrongKeys() []string {
	all := []string{"", "0", "5", newKey[1:], newKey + "0", newKey + newKey, " " + newKey, newKey + " ", newKey + "\x00", strings.Repeat(" ", 15), strings.Repeat("x", 15),
		strings.Repeat("0", impl.MaxText), strings.Repeat("0", impl.MaxText+1), "00000000000000\u0661", "0000000000000\u0661", strings.Repeat("\xff", 15)}
	for i := range greatestOfKey {
		for _, b := range []byte{0, '/', ':', 'a', ' ', '-', '0' + 128, 255, greatestOfKey[i] + 1} {
			all = append(all, newKey[:i]+string([]byte{b})+newKey[i+1:])
		}
	}
	return all
}

// wrongBugLists have a bug that is none, two in the wrong order, one twice, or too
// many.
func wrongBugLists() [][]impl.Bug {
	bugs, _ := plainBugs()
	all := [][]impl.Bug{bugs, bugs[:31], bugs[6:], slices.Repeat(bugs[:1], 31), someBugs(30, 1), make([]impl.Bug, 1), make([]impl.Bug, 31), slices.Repeat(bugs, 200)}
	for _, b := range wrongBugs() {
		all = append(all, []impl.Bug{b}, []impl.Bug{bugs[0], b}, []impl.Bug{b, bugs[36]}, append(slices.Clone(bugs[:29]), b))
	}
	for i, b := range bugs {
		all = append(all, []impl.Bug{b, b})
		for _, earlier := range bugs[:i] {
			all = append(all, []impl.Bug{b, earlier})
		}
	}
	for i := range 29 {
		turned := slices.Clone(bugs[:30])
		turned[i], turned[i+1] = turned[i+1], turned[i]
		twice := slices.Clone(bugs[:30])
		twice[i] = twice[i+1]
		all = append(all, turned, twice)
	}
	return all
}

// wrongFeet have what is no item, two items in the wrong order, or one twice.
func wrongFeet() [][]int {
	all := [][]int{{16, 8, 0}, {0, 8, 8}, {22, 22}, slices.Repeat([]int{0}, 30), slices.Repeat(everyItem(), 200), counted(21), counted(23), counted(impl.MaxList + 1)}
	for _, wrong := range noItems() {
		all = append(all, []int{wrong}, []int{0, wrong}, []int{wrong, 22}, []int{0, wrong, 22})
	}
	for i, item := range everyItem() {
		all = append(all, []int{item, item})
		for _, earlier := range everyItem()[:i] {
			all = append(all, []int{item, earlier})
		}
		turned := everyItem()
		turned[i], turned[(i+1)%21] = turned[(i+1)%21], turned[i]
		all = append(all, turned, slices.Insert(everyItem(), i, item))
	}
	return all
}

// wrongEntries have one wrong part each, and some have all of them.
func wrongEntries() []impl.Entry {
	bugs, _ := plainBugs()
	all := []impl.Entry{{}, {Bugs: bugs, Foot: []int{7}}, {Foot: everyItem()}, {Bugs: bugs[:2]}}
	for _, key := range wrongKeys() {
		all = append(all, impl.Entry{Key: key}, impl.Entry{Key: key, Bugs: bugs[3:5], Foot: []int{1, 9}})
	}
	for _, list := range wrongBugLists() {
		all = append(all, impl.Entry{Key: newKey, Bugs: list}, impl.Entry{Key: greatestOfKey, Bugs: list, Foot: everyItem()})
	}
	for _, foot := range wrongFeet() {
		all = append(all, impl.Entry{Key: newKey, Foot: foot}, impl.Entry{Key: greatestOfKey, Bugs: bugs[:30], Foot: foot})
	}
	return all
}

func wantEntry(t *testing.T, e impl.Entry) {
	t.Helper()
	text := plainEntryText(e)
	if !plainEntryOK(e) || !impl.EntryOK(e) || !impl.MemoOK(impl.Memo{Entries: []impl.Entry{e}}) {
		t.Errorf("EntryOK(%v) is %v, MemoOK %v", e, impl.EntryOK(e), impl.MemoOK(impl.Memo{Entries: []impl.Entry{e}}))
	}
	if got, code := impl.EntryText(e); got != text || code != 0 {
		t.Errorf("EntryText(%v) = %q, %d, not %q", e, got, code, text)
	}
	if got, code := impl.ReadEntry(text); !sameEntry(got, e) || code != 0 {
		t.Errorf("ReadEntry(%q) = %v, %d, not %v", text, got, code, e)
	}
}

func TestEntriesAreReadBackFromTheirTexts(t *testing.T) {
	texts := map[string]impl.Entry{}
	for _, e := range rightEntries() {
		wantEntry(t, e)
		text, _ := impl.EntryText(e)
		if other, there := texts[text]; there && !sameEntry(other, e) {
			t.Errorf("%v and %v have one text", e, other)
		}
		texts[text] = e
	}
	if len(texts) < 1000 {
		t.Error("hardly any texts:", len(texts))
	}
}

func TestEntryTextsByHand(t *testing.T) {
	bugs, _ := plainBugs()
	for text, e := range map[string]impl.Entry{
		newKey + "\x01\x00":                                   {Key: newKey},
		greatestOfKey + "\x01\x00":                            {Key: greatestOfKey},
		newKey + "\x02\x00\x00":                               {Key: newKey, Foot: []int{0}},
		newKey + "\x03\x00\x06\x16":                           {Key: newKey, Foot: []int{6, 22}},
		newKey + "\x04\x01\x0e\x00\x00":                       {Key: newKey, Bugs: bugs[36:]},
		newKey + "\x04\x01\x0c\x00\x00":                       {Key: newKey, Bugs: bugs[:1]},
		newKey + "\x05\x01\x0d\x02\x05\x08":                   {Key: newKey, Bugs: bugs[35:36], Foot: []int{8}},
		"123456712654321\x08\x02\x0c\x01\x03\x0e\x00\x00\x0b": {Key: "123456712654321", Bugs: []impl.Bug{{Kind: 12, Thread: 1, Pc: 3}, {Kind: 14}}, Foot: []int{11}},
	} {
		wantEntry(t, e)
		if got, code := impl.EntryText(e); got != text || code != 0 {
			t.Errorf("EntryText(%v) = %q, %d, not %q", e, got, code, text)
		}
	}
	// the greatest of all: 15 digits, 112 numbers and how many these are, of a byte each
	text, code := impl.EntryText(greatestEntry())
	if len(text) != 128 || text[15] != 112 || text[16] != 30 || code != 0 {
		t.Errorf("the greatest entry's text is %q, %d", text, code)
	}
}

func wantNoEntry(t *testing.T, text string, want int) {
	t.Helper()
	if e, code := impl.ReadEntry(text); !isZeroEntry(e) || code != want {
		t.Errorf("ReadEntry(%.150q) of %d bytes = %v, %d, not %d", text, len(text), e, code, want)
	}
}

// wantPlainEntry holds a text that may be an entry's or not against the plain
// reading.
func wantPlainEntry(t *testing.T, text string) bool {
	t.Helper()
	want, ok := plainReadEntry(text)
	if !ok {
		wantNoEntry(t, text, impl.ErrForm)
		return false
	}
	if e, code := impl.ReadEntry(text); !sameEntry(e, want) || code != 0 {
		t.Errorf("ReadEntry(%q) = %v, %d, not %v", text, e, code, want)
	}
	return true
}

// Texts that are cut short, longer, or of another byte at one place.
func TestEntriesOfBentTexts(t *testing.T) {
	right, wrong := 0, 0
	bugs, _ := plainBugs()
	for _, e := range []impl.Entry{{Key: newKey}, greatestEntry(), {Key: "123456712654321", Bugs: bugs[11:13], Foot: []int{0, 9, 22}}, {Key: greatestOfKey, Foot: []int{5}}} {
		text := plainEntryText(e)
		for i := range len(text) {
			wantNoEntry(t, text[:i], impl.ErrForm)
			wantPlainEntry(t, text[i+1:])
			wantPlainEntry(t, text[:i]+text[i+1:])
			for b := range 256 {
				if wantPlainEntry(t, text[:i]+string([]byte{byte(b)})+text[i+1:]) {
					right++
				} else {
					wrong++
				}
				if b%16 == 0 {
					wantPlainEntry(t, text[:i]+string([]byte{byte(b)})+text[i:])
				}
			}
		}
		for _, more := range []string{"\x00", "0", " ", "\n", "\x80", "\xff", "\x01\x00", text} {
			wantNoEntry(t, text+more, impl.ErrForm)
		}
		wantNoEntry(t, " "+text, impl.ErrForm)
		wantNoEntry(t, "0"+text, impl.ErrForm)
	}
	if right < 500 || wrong < 10000 {
		t.Error("hardly any texts of one kind:", right, wrong)
	}
}

// A number of bugs that is not the one of the bugs that are there: what is left over
// would have to be items, what is missing bugs.
func TestEntriesOfWrongNumbersOfBugs(t *testing.T) {
	bugs, _ := plainBugs()
	for n := range 38 {
		list := []int{}
		for _, b := range bugs[:n] {
			list = append(list, b.Kind, b.Thread, b.Pc)
		}
		for _, said := range []int{0, 1, n - 2, n - 1, n, n + 1, n + 2, 2 * n, 29, 30, 31, 32, 37, 127, 128, 4096, impl.MaxNumber, impl.MaxNumber / 3} {
			if said < 0 {
				continue
			}
			for _, foot := range [][]int{nil, {0}, {12, 13}, {12, 13, 14}, {0, 1, 2}, everyItem()[1:], everyItem()} {
				text := newKey + plainList(slices.Concat([]int{said}, list, foot))
				if said == n && n <= 30 {
					wantEntry(t, impl.Entry{Key: newKey, Bugs: bugs[:n], Foot: foot})
				} else if said > 30 {
					wantNoEntry(t, text, impl.ErrForm)
				}
				wantPlainEntry(t, text)
			}
		}
	}
	// three numbers may be a bug, or items that rise
	three := newKey + "\x04\x00\x0c\x0d\x0e"
	if e, code := impl.ReadEntry(three); code != 0 || len(e.Bugs) != 0 || !slices.Equal(e.Foot, []int{12, 13, 14}) {
		t.Errorf("ReadEntry(%q) = %v, %d", three, e, code)
	}
	wantNoEntry(t, newKey+"\x04\x01\x0c\x0d\x0e", impl.ErrForm)
	// one number short of a bug, and two
	wantNoEntry(t, newKey+"\x03\x01\x0c\x00", impl.ErrForm)
	wantNoEntry(t, newKey+"\x02\x01\x0e", impl.ErrForm)
	wantNoEntry(t, newKey+"\x06\x02\x0c\x00\x00\x0e\x00", impl.ErrForm)
}

// packable tells whether all numbers of an entry can be packed, wrong or not.
func packable(e impl.Entry) bool {
	list := slices.Clone(e.Foot)
	for _, b := range e.Bugs {
		list = append(list, b.Kind, b.Thread, b.Pc)
	}
	return len(list) < 5000 && !slices.ContainsFunc(list, func(n int) bool { return n < 0 || n > impl.MaxNumber })
}

// Numbers that are right, of entries that are not.
func TestTextsOfWrongEntries(t *testing.T) {
	told := 0
	for _, e := range wrongEntries() {
		if !packable(e) || len(e.Key) > 1000 {
			continue
		}
		told++
		wantNoEntry(t, plainEntryText(e), impl.ErrForm)
	}
	if told < 1000 {
		t.Error("hardly any texts:", told)
	}
}

func TestEntriesOfOtherTexts(t *testing.T) {
	for _, text := range oddTexts() {
		if len(text) > impl.MaxText {
			wantNoEntry(t, text, impl.ErrLong)
			continue
		}
		wantPlainEntry(t, text)
		for _, key := range []string{newKey, greatestOfKey} {
			if len(text) < 100 {
				wantPlainEntry(t, key+text)
			}
		}
	}
	for _, key := range rightKeys()[:50] {
		wantNoEntry(t, key, impl.ErrForm)
		wantNoEntry(t, key+"\x00", impl.ErrForm)
		wantNoEntry(t, key+"\x81\x00\x00", impl.ErrForm) // a number of more bytes than it takes
		wantNoEntry(t, key+"\x02\x00\x85\x00", impl.ErrForm)
		wantNoEntry(t, key+"\x02\x80\x00\x05", impl.ErrForm)
	}
	for _, begin := range []string{"", newKey, plainEntryText(greatestEntry()), newKey + plainNumber(4096), newKey + plainNumber(4097)} {
		for _, fill := range []string{"0", "\x00", "\xff"} {
			text := begin + strings.Repeat(fill, impl.MaxText+1)
			wantNoEntry(t, text[:impl.MaxText], impl.ErrForm)
			wantNoEntry(t, text[:impl.MaxText+1], impl.ErrLong)
		}
	}
	full := newKey + plainList(append([]int{0}, slices.Repeat([]int{3}, 4095)...))
	wantNoEntry(t, full, impl.ErrForm)
	wantNoEntry(t, newKey+plainList(append([]int{0}, slices.Repeat([]int{3}, 4096)...)), impl.ErrForm)
}

func wantMemoBad(t *testing.T, name string, m impl.Memo) {
	t.Helper()
	right := someMemo(3, 4)
	if impl.MemoOK(m) || impl.SameMemo(m, m) || impl.SameMemo(m, right) || impl.SameMemo(right, m) || impl.SameMemo(impl.Memo{}, m) {
		t.Errorf("%s: MemoOK is %v, or it is the same as another one", name, impl.MemoOK(m))
	}
	for _, key := range []string{newKey, greatestOfKey, "", "5"} {
		if e, code := impl.FindEntry(m, key); !isZeroEntry(e) || code != impl.ErrBad {
			t.Errorf("%s: FindEntry(%q) = %v, %d", name, key, e, code)
		}
	}
	for _, e := range []impl.Entry{{Key: newKey}, greatestEntry(), {Key: "5"}, {}} {
		if got, code := impl.PutEntry(m, e); len(got.Entries) != 0 || code != impl.ErrBad {
			t.Errorf("%s: PutEntry(%v) = %.80v, %d", name, e, got, code)
		}
	}
	for _, changed := range [][]int{nil, {0}, {22, 0}, {7}, {-1}} { // bad comes ahead of range
		if got, code := impl.KeepEntries(m, changed); len(got.Entries) != 0 || code != impl.ErrBad {
			t.Errorf("%s: KeepEntries(%v) = %.80v, %d", name, changed, got, code)
		}
	}
}

func TestEntriesThatAreWrong(t *testing.T) {
	three := someMemo(3, 4)
	first, last := impl.Entry{Key: newKey}, impl.Entry{Key: greatestOfKey}
	for i, e := range wrongEntries() {
		name := fmt.Sprintf("entry %d, %.60v", i, e)
		if plainEntryOK(e) || impl.EntryOK(e) {
			t.Errorf("%s: EntryOK is true", name)
		}
		if text, code := impl.EntryText(e); text != "" || code != impl.ErrBad {
			t.Errorf("%s: EntryText = %q, %d", name, text, code)
		}
		for _, m := range []impl.Memo{{}, three, {Entries: []impl.Entry{first, last}}, {Entries: []impl.Entry{e}}, {Entries: []impl.Entry{last, first}}} {
			if got, code := impl.PutEntry(m, e); len(got.Entries) != 0 || code != impl.ErrBad {
				t.Errorf("%s: PutEntry = %v, %d", name, got, code)
			}
		}
		wantMemoBad(t, name, impl.Memo{Entries: []impl.Entry{e}})
		if i%7 == 0 {
			for at := range 4 {
				wantMemoBad(t, name, impl.Memo{Entries: slices.Insert(slices.Clone(three.Entries), at, e)})
			}
		}
	}
}

// Of all pairs of bugs and of numbers just those are right that rise.
func TestEntriesOfAllPairs(t *testing.T) {
	bugs, _ := plainBugs()
	for i, a := range bugs {
		for j, b := range bugs {
			if impl.EntryOK(impl.Entry{Key: newKey, Bugs: []impl.Bug{a, b}}) != (i < j) {
				t.Errorf("EntryOK of %v, %v is not %v", a, b, i < j)
			}
		}
	}
	for a := -2; a < 27; a++ {
		for b := -2; b < 27; b++ {
			want := slices.Contains(everyItem(), a) && slices.Contains(everyItem(), b) && a < b
			if impl.EntryOK(impl.Entry{Key: newKey, Foot: []int{a, b}}) != want {
				t.Errorf("EntryOK of %d, %d is not %v", a, b, want)
			}
		}
	}
	for n := range 38 {
		if impl.EntryOK(impl.Entry{Key: newKey, Bugs: bugs[:n]}) != (n <= 30) || impl.EntryOK(impl.Entry{Key: newKey, Bugs: bugs[37-n:]}) != (n <= 30) {
			t.Errorf("EntryOK of %d bugs is not %v", n, n <= 30)
		}
	}
}

func TestMemosWhoseKeysDoNotRise(t *testing.T) {
	m := someMemo(12, 3)
	for i := range m.Entries {
		for j := range i {
			turned := slices.Clone(m.Entries)
			turned[i], turned[j] = turned[j], turned[i]
			wantMemoBad(t, fmt.Sprint(i, " and ", j, " change places"), impl.Memo{Entries: turned})
			twice := slices.Clone(m.Entries)
			twice[j] = someEntry(m.Entries[i].Key, 50)
			wantMemoBad(t, fmt.Sprint(j, " has the key of ", i), impl.Memo{Entries: twice})
		}
		wantMemoBad(t, fmt.Sprint("twice ", i), impl.Memo{Entries: slices.Insert(slices.Clone(m.Entries), i, m.Entries[i])})
		wantMemoBad(t, fmt.Sprint("twice, of other bugs ", i), impl.Memo{Entries: slices.Insert(slices.Clone(m.Entries), i, someEntry(m.Entries[i].Key, 30))})
	}
	if !impl.MemoOK(m) || !impl.MemoOK(impl.Memo{}) || !impl.MemoOK(impl.Memo{Entries: []impl.Entry{}}) {
		t.Error("MemoOK of what is right is false")
	}
}

func wantFound(t *testing.T, m impl.Memo, key string, want impl.Entry) {
	t.Helper()
	if e, code := impl.FindEntry(m, key); !sameEntry(e, want) || code != 0 {
		t.Errorf("FindEntry(.. of %d, %s) = %v, %d, not %v", len(m.Entries), key, e, code, want)
	}
}

func wantNotFound(t *testing.T, m impl.Memo, key string, want int) {
	t.Helper()
	if e, code := impl.FindEntry(m, key); !isZeroEntry(e) || code != want {
		t.Errorf("FindEntry(.. of %d, %.40q) = %v, %d, not %d", len(m.Entries), key, e, code, want)
	}
}

// wantMemo asks for just these entries, one by one too, and for none of other keys.
func wantMemo(t *testing.T, name string, m impl.Memo, want map[string]impl.Entry, keys []string) {
	t.Helper()
	if !impl.MemoOK(m) || !sameEntries(m.Entries, rowsOf(want)) {
		t.Errorf("%s: the memo is %v, not %v", name, m, rowsOf(want))
	}
	for _, key := range keys {
		if e, there := want[key]; there {
			wantFound(t, m, key, e)
		} else {
			wantNotFound(t, m, key, impl.ErrNone)
		}
	}
}

// The promise: what is put is found, over what was there, and all else stays.
func TestWhatIsPutIsFound(t *testing.T) {
	count := map[string]int{}
	for seed := range 12 {
		keys := append(manyKeys(12+seed), newKey, greatestOfKey)
		var m impl.Memo
		want := map[string]impl.Entry{}
		for i := range 60 {
			e := someEntry(keys[(i*i*3+i*seed+seed)%len(keys)], i*5+seed)
			switch _, there := want[e.Key]; {
			case there && sameEntry(want[e.Key], e):
				count["again"]++
			case there:
				count["over"]++
			case len(want) > 0 && e.Key < m.Entries[0].Key:
				count["ahead"]++
			case len(want) > 0 && e.Key > m.Entries[len(m.Entries)-1].Key:
				count["behind"]++
			default:
				count["between"]++
			}
			was := clonedEntries(m.Entries)
			next, code := impl.PutEntry(m, e)
			if code != 0 || !sameEntries(m.Entries, was) {
				t.Errorf("PutEntry of %v: %d, and the memo is %v, not %v", e, code, m.Entries, was)
			}
			want[e.Key] = e
			wantMemo(t, fmt.Sprint("put ", i), next, want, keys)
			for _, bent := range bentKeys(e.Key) {
				if _, there := want[bent]; !there {
					wantNotFound(t, next, bent, impl.ErrNone)
				}
			}
			m = next
		}
	}
	for _, kind := range []string{"over", "ahead", "behind", "between"} {
		if count[kind] < 10 {
			t.Errorf("hardly any %s: %v", kind, count)
		}
	}
}

// In whatever order entries are put, the memo is the same, but for what is put over.
func TestPutsInAnyOrder(t *testing.T) {
	keys := manyKeys(4)
	for _, list := range listsUpTo(4, 0, 3) {
		var m impl.Memo
		want := map[string]impl.Entry{}
		for i, at := range list {
			e := someEntry(keys[at], i*7+at)
			want[e.Key] = e
			m, _ = impl.PutEntry(m, e)
		}
		wantMemo(t, fmt.Sprint(list), m, want, keys)
	}
}

func TestPutsByHand(t *testing.T) {
	a := impl.Entry{Key: newKey, Bugs: []impl.Bug{{Kind: 12}}, Foot: []int{0, 8}}
	b := impl.Entry{Key: "000000000000001", Foot: []int{16}}
	c := impl.Entry{Key: "100000000000000", Bugs: []impl.Bug{{Kind: 13, Thread: 1, Pc: 5}, {Kind: 14}}}
	d := impl.Entry{Key: greatestOfKey}
	otherBugs := impl.Entry{Key: b.Key, Bugs: []impl.Bug{{Kind: 14}}, Foot: []int{16}}
	otherFoot := impl.Entry{Key: b.Key, Foot: []int{1, 17}}
	nothing := impl.Entry{Key: a.Key}
	for i, row := range []struct {
		was  []impl.Entry
		put  impl.Entry
		want []impl.Entry
	}{
		{nil, a, []impl.Entry{a}},
		{[]impl.Entry{}, d, []impl.Entry{d}},
		{[]impl.Entry{b, c}, a, []impl.Entry{a, b, c}},
		{[]impl.Entry{a, c}, b, []impl.Entry{a, b, c}},
		{[]impl.Entry{a, b, d}, c, []impl.Entry{a, b, c, d}},
		{[]impl.Entry{a, b, c}, d, []impl.Entry{a, b, c, d}},
		{[]impl.Entry{a}, a, []impl.Entry{a}},
		{[]impl.Entry{b}, otherBugs, []impl.Entry{otherBugs}},
		{[]impl.Entry{a, b, c}, otherBugs, []impl.Entry{a, otherBugs, c}},
		{[]impl.Entry{a, b, c}, otherFoot, []impl.Entry{a, otherFoot, c}},
		{[]impl.Entry{a, otherBugs, c}, otherFoot, []impl.Entry{a, otherFoot, c}},
		{[]impl.Entry{a, b, c}, nothing, []impl.Entry{nothing, b, c}},
		{[]impl.Entry{nothing, b}, a, []impl.Entry{a, b}},
		{[]impl.Entry{a, b, greatestEntry()}, d, []impl.Entry{a, b, d}},
	} {
		m, code := impl.PutEntry(impl.Memo{Entries: row.was}, row.put)
		if !sameEntries(m.Entries, row.want) || code != 0 {
			t.Errorf("row %d: PutEntry = %v, %d, not %v", i, m, code, row.want)
		}
		wantFound(t, m, row.put.Key, row.put)
	}
}

func TestEntriesThatAreNotThere(t *testing.T) {
	for _, m := range []impl.Memo{{}, someMemo(1, 3), someMemo(30, 3)} {
		for _, key := range slices.Concat(wrongKeys(), oddTexts(), []string{newKey, greatestOfKey}) {
			if len(key) > impl.MaxText {
				wantNotFound(t, m, key, impl.ErrLong)
			} else {
				wantNotFound(t, m, key, impl.ErrNone)
			}
		}
	}
	full := someMemo(2000, 1)
	for _, key := range []string{"", "5", newKey, greatestOfKey, full.Entries[0].Key[1:], full.Entries[1999].Key + "0"} {
		wantNotFound(t, full, key, impl.ErrNone)
	}
	// a key that is too long comes ahead of a memo that is wrong
	wrong := impl.Memo{Entries: []impl.Entry{{}}}
	wantNotFound(t, wrong, strings.Repeat("0", impl.MaxText+1), impl.ErrLong)
	wantNotFound(t, wrong, strings.Repeat("0", impl.MaxText), impl.ErrBad)
	wantNotFound(t, wrong, "", impl.ErrBad)
}

// A memo has room for 2000 entries; one is put over another one there all the same.
func TestMemosAtTheirBound(t *testing.T) {
	keys := manyKeys(2003)
	all := map[string]impl.Entry{}
	spare := []string{keys[0], keys[1000], keys[2002]}
	for i, key := range keys {
		if !slices.Contains(spare, key) {
			all[key] = someEntry(key, i)
		}
	}
	m := impl.Memo{Entries: rowsOf(all)}
	wantMemo(t, "full", m, all, append(keys[:40:40], spare...))
	for _, key := range spare {
		got, code := impl.PutEntry(m, someEntry(key, 3))
		if code != impl.ErrFull || !sameEntries(got.Entries, m.Entries) {
			t.Errorf("PutEntry of one more: %d, with %d entries", code, len(got.Entries))
		}
		if _, code := impl.PutEntry(m, impl.Entry{Key: key, Foot: []int{7}}); code != impl.ErrBad {
			t.Errorf("PutEntry of one more that is wrong: %d", code)
		}
		more := maps.Clone(all)
		more[key] = someEntry(key, 3)
		wantMemoBad(t, "one more", impl.Memo{Entries: rowsOf(more)})
		for _, gone := range []string{keys[1], keys[999], keys[1001], keys[2001]} {
			less := maps.Clone(all)
			delete(less, gone)
			wantNotFound(t, impl.Memo{Entries: rowsOf(less)}, gone, impl.ErrNone)
			got, code := impl.PutEntry(impl.Memo{Entries: rowsOf(less)}, more[key])
			less[key] = more[key]
			if code != 0 {
				t.Errorf("PutEntry of the last one: %d", code)
			}
			wantMemo(t, "filled", got, less, []string{key, gone, keys[500]})
		}
	}
	for _, key := range []string{keys[1], keys[2], keys[999], keys[1001], keys[1500], keys[2001]} {
		for seed := range 3 {
			e := someEntry(key, seed*8+30)
			got, code := impl.PutEntry(m, e)
			over := maps.Clone(all)
			over[key] = e
			if code != 0 {
				t.Errorf("PutEntry over one of a full memo: %d", code)
			}
			wantMemo(t, "over", got, over, append(spare, key, keys[500]))
		}
	}
	kept, code := impl.KeepEntries(m, nil)
	if code != 0 || !impl.SameMemo(kept, m) {
		t.Errorf("KeepEntries of a full memo: %d, with %d entries", code, len(kept.Entries))
	}
}

// From no entries to as many as there may be, and no further.
func TestMemosAreFilledOneByOne(t *testing.T) {
	keys := manyKeys(2010)
	var m impl.Memo
	all := map[string]impl.Entry{}
	for i := range keys {
		e := someEntry(keys[(i*917)%len(keys)], i)
		next, code := impl.PutEntry(m, e)
		if len(all) == 2000 {
			if code != impl.ErrFull || !impl.SameMemo(next, m) {
				t.Errorf("put %d: %d", i, code)
			}
			wantNotFound(t, next, e.Key, impl.ErrNone)
			continue
		}
		all[e.Key] = e
		if code != 0 || len(next.Entries) != len(all) {
			t.Fatalf("put %d: %d, with %d entries", i, code, len(next.Entries))
		}
		wantFound(t, next, e.Key, e)
		m = next
	}
	wantMemo(t, "filled one by one", m, all, keys)
}

func wantKept(t *testing.T, m impl.Memo, changed []int) int {
	t.Helper()
	var want []impl.Entry
	for _, e := range m.Entries {
		stays := true
		for _, item := range e.Foot {
			stays = stays && !slices.Contains(changed, item)
		}
		if stays {
			want = append(want, e)
		}
	}
	was := clonedEntries(m.Entries)
	got, code := impl.KeepEntries(m, changed)
	if !sameEntries(got.Entries, want) || code != 0 || !impl.MemoOK(got) {
		t.Errorf("KeepEntries(%.150v, %.80v) = %.150v, %d, not %.150v", m, changed, got, code, want)
	}
	if !sameEntries(m.Entries, was) {
		t.Errorf("KeepEntries changed its memo by %v", changed)
	}
	return len(m.Entries) - len(want)
}

func TestEntriesThatAreKept(t *testing.T) {
	gone, left := 0, 0
	for n := range 25 {
		m := someMemo(n, n*3)
		for _, changed := range itemLists() {
			lost := wantKept(t, m, changed)
			gone += lost
			left += n - lost
		}
		for _, item := range everyItem() {
			wantKept(t, m, []int{item})
			wantKept(t, m, []int{item, item, 22})
		}
	}
	if gone < 1000 || left < 1000 {
		t.Error("hardly any that are gone, or that are kept:", gone, left)
	}
	full := someMemo(2000, 6)
	for _, changed := range [][]int{nil, {0}, {22}, {6, 3}, everyItem(), slices.Repeat(everyItem(), 195), slices.Repeat([]int{14, 9}, 2048)} {
		wantKept(t, full, changed)
	}
}

func TestEntriesThatAreKeptByHand(t *testing.T) {
	a := impl.Entry{Key: newKey, Bugs: []impl.Bug{{Kind: 12}}, Foot: []int{0, 9, 22}}
	b := impl.Entry{Key: "000000000000001"}
	c := impl.Entry{Key: "100000000000000", Foot: []int{1, 8, 22}}
	d := impl.Entry{Key: greatestOfKey, Foot: everyItem()}
	m := impl.Memo{Entries: []impl.Entry{a, b, c, d}}
	for _, row := range []struct {
		changed []int
		want    []impl.Entry
	}{
		{nil, m.Entries}, {[]int{}, m.Entries}, {[]int{0}, []impl.Entry{b, c}}, {[]int{22}, []impl.Entry{b}}, {[]int{2}, []impl.Entry{a, b, c}},
		{[]int{8, 0}, []impl.Entry{b}}, {[]int{1, 1, 1}, []impl.Entry{a, b}}, {[]int{10, 10, 2, 9, 10}, []impl.Entry{b, c}}, {everyItem(), []impl.Entry{b}},
		{append(slices.Repeat([]int{2}, impl.MaxList-1), 8), []impl.Entry{a, b}},
	} {
		if got, code := impl.KeepEntries(m, row.changed); !sameEntries(got.Entries, row.want) || code != 0 {
			t.Errorf("KeepEntries(%.80v) = %v, %d, not %v", row.changed, got, code, row.want)
		}
		if got, code := impl.KeepEntries(impl.Memo{}, row.changed); len(got.Entries) != 0 || code != 0 {
			t.Errorf("KeepEntries of nothing, %.80v = %v, %d", row.changed, got, code)
		}
	}
	for _, gone := range [][]impl.Entry{{a}, {c, d}, {a, c, d}} { // nothing is left
		if got, code := impl.KeepEntries(impl.Memo{Entries: gone}, []int{22}); len(got.Entries) != 0 || code != 0 {
			t.Errorf("KeepEntries(%v) = %v, %d", gone, got, code)
		}
	}
}

func wantKeepCode(t *testing.T, m impl.Memo, changed []int, want int) {
	t.Helper()
	if got, code := impl.KeepEntries(m, changed); len(got.Entries) != 0 || code != want {
		t.Errorf("KeepEntries(%.80v, %.80v) = %.80v, %d, not %d", m, changed, got, code, want)
	}
}

func TestKeepingByWrongItems(t *testing.T) {
	wrong := impl.Memo{Entries: []impl.Entry{{Key: newKey}, {Key: newKey}}}
	for _, m := range []impl.Memo{{}, someMemo(1, 0), someMemo(9, 5), {Entries: []impl.Entry{{Key: newKey, Foot: everyItem()}}}} {
		for _, item := range noItems() {
			for _, rest := range [][]int{nil, {0}, {22, 0, 22}, everyItem()} {
				for at := range len(rest) + 1 {
					changed := slices.Insert(slices.Clone(rest), at, item)
					wantKeepCode(t, m, changed, impl.ErrRange)
					wantKeepCode(t, wrong, changed, impl.ErrBad)
				}
			}
		}
		full := slices.Repeat([]int{0, 5, 3}, 1400)[:impl.MaxList]
		wantKept(t, m, full)
		wantKeepCode(t, m, append(full[1:], 7), impl.ErrRange)
		for _, item := range []int{0, 7, math.MinInt} {
			wantKeepCode(t, m, append(slices.Clone(full), item), impl.ErrLong)
			wantKeepCode(t, wrong, append(slices.Clone(full), item), impl.ErrLong)
		}
	}
}

// Entries of a program's own states are kept just where both versions agree on their
// feet.
func TestEntriesThatAVersionKeeps(t *testing.T) {
	gone, left := 0, 0
	for i, p := range slices.Concat(stillPrograms(t), closePrograms()[:40]) {
		var m impl.Memo
		for n, key := range keysOf(plainSpace(p)) {
			if n%7 != i%7 {
				continue
			}
			foot, code := impl.FootOf(p, vmOfKey(key))
			if code != 0 {
				continue
			}
			m, code = impl.PutEntry(m, impl.Entry{Key: key, Foot: foot})
			if code != 0 {
				t.Errorf("PutEntry of %s: %d", key, code)
			}
			if len(m.Entries) == 60 {
				break
			}
		}
		for _, q := range versionsOf(p, i) {
			changed, _ := impl.ChangedItems(p, q)
			kept, code := impl.KeepEntries(m, changed)
			if code != 0 {
				t.Errorf("KeepEntries of %v: %d", changed, code)
			}
			for _, e := range m.Entries {
				agree, _ := impl.AgreeOn(p, q, e.Foot)
				if agree {
					left++
					wantFound(t, kept, e.Key, e)
				} else {
					gone++
					wantNotFound(t, kept, e.Key, impl.ErrNone)
				}
			}
		}
	}
	if gone < 1000 || left < 1000 {
		t.Error("hardly any that are gone, or that are kept:", gone, left)
	}
}

func wantSameMemo(t *testing.T, name string, a, b impl.Memo, want bool) {
	t.Helper()
	if impl.SameMemo(a, b) != want || impl.SameMemo(b, a) != want {
		t.Errorf("%s: SameMemo is %v, %v", name, impl.SameMemo(a, b), impl.SameMemo(b, a))
	}
}

func TestMemosThatAreAlike(t *testing.T) {
	memos := []impl.Memo{{}, {Entries: []impl.Entry{{Key: newKey}}}, {Entries: []impl.Entry{{Key: greatestOfKey}}}, {Entries: []impl.Entry{greatestEntry()}}}
	for n := range 12 {
		memos = append(memos, someMemo(n+1, n), someMemo(n+1, n+40))
	}
	for i, a := range memos {
		for j, b := range memos {
			wantSameMemo(t, fmt.Sprint(i, " and ", j), a, impl.Memo{Entries: clonedEntries(b.Entries)}, i == j)
		}
	}
	none := impl.Memo{Entries: []impl.Entry{}}
	wantSameMemo(t, "empty and nil", none, impl.Memo{}, true)
	empty := impl.Memo{Entries: []impl.Entry{{Key: newKey, Bugs: []impl.Bug{}, Foot: []int{}}}}
	wantSameMemo(t, "an entry of empty lists", empty, impl.Memo{Entries: []impl.Entry{{Key: newKey}}}, true)
	wantSameMemo(t, "an entry and none", empty, none, false)
	full := someMemo(2000, 7)
	wantSameMemo(t, "full", full, impl.Memo{Entries: clonedEntries(full.Entries)}, true)
	wantSameMemo(t, "full but for the last one", full, impl.Memo{Entries: full.Entries[:1999]}, false)
	wantSameMemo(t, "full but for the first one", full, impl.Memo{Entries: full.Entries[1:]}, false)
	last := impl.Memo{Entries: clonedEntries(full.Entries)}
	last.Entries[1999] = someEntry(last.Entries[1999].Key, 3)
	wantSameMemo(t, "full, and the last one is another", full, last, false)
}

// Memos that are apart by one key, one bug or one item of any of their entries.
func TestMemosThatAreNearlyAlike(t *testing.T) {
	m := someMemo(8, 17)
	bugs, _ := plainBugs()
	apart := 0
	for i := range m.Entries {
		change := func(turn func(e *impl.Entry)) {
			other := impl.Memo{Entries: clonedEntries(m.Entries)}
			turn(&other.Entries[i])
			if impl.MemoOK(other) {
				apart++
				wantSameMemo(t, fmt.Sprint("entry ", i), m, other, sameEntries(m.Entries, other.Entries))
			}
		}
		for _, key := range bentKeys(m.Entries[i].Key) {
			change(func(e *impl.Entry) { e.Key = key })
		}
		for _, b := range bugs {
			change(func(e *impl.Entry) { e.Bugs = plainMerge(e.Bugs, []impl.Bug{b}) })
			change(func(e *impl.Entry) { e.Bugs = slices.DeleteFunc(e.Bugs, func(x impl.Bug) bool { return x == b }) })
			for at := range m.Entries[i].Bugs {
				change(func(e *impl.Entry) { e.Bugs[at] = b })
			}
		}
		for _, item := range everyItem() {
			change(func(e *impl.Entry) { e.Foot = plainUnion(e.Foot, []int{item}) })
			change(func(e *impl.Entry) { e.Foot = slices.DeleteFunc(e.Foot, func(x int) bool { return x == item }) })
			for at := range m.Entries[i].Foot {
				change(func(e *impl.Entry) { e.Foot[at] = item })
			}
		}
	}
	if apart < 500 {
		t.Error("hardly any memos that are right, too:", apart)
	}
}
