package tests

import (
	"fmt"
	"math"
	"strings"
	"testing"
	"unsafe"

	"loop.example/g00632/impl"
)

// plainDisk is the second writing of chapter 13: all bytes of a disk, each with
// whether it is sure, the sure ones first.
type plainDisk struct {
	all  []byte
	sure int
}

func plainOf(d impl.Disk) plainDisk {
	return plainDisk{all: []byte(d.Sure + d.Pending), sure: len(d.Sure)}
}

func (d plainDisk) disk() impl.Disk {
	return impl.Disk{Sure: string(d.all[:d.sure]), Pending: string(d.all[d.sure:])}
}

func (d plainDisk) right() bool { return len(d.all) < 60001 }

func surely(all []byte) impl.Disk { return plainDisk{all: all, sure: len(all)}.disk() }

func plainAppend(d impl.Disk, t string) (impl.Disk, int) {
	p := plainOf(d)
	switch all := append(p.all, t...); {
	case len(t) > 65536:
		return impl.Disk{}, impl.ErrLong
	case !p.right():
		return impl.Disk{}, impl.ErrBad
	case !plainDisk{all: all}.right():
		return d, impl.ErrFull
	default:
		return plainDisk{all: all, sure: p.sure}.disk(), impl.OK
	}
}

func plainFlush(d impl.Disk) (impl.Disk, int) {
	p := plainOf(d)
	if !p.right() {
		return impl.Disk{}, impl.ErrBad
	}
	return surely(p.all), impl.OK
}

// plainCrash goes byte by byte: each that is kept is one more that is sure.
func plainCrash(d impl.Disk, keep int) (impl.Disk, int) {
	p := plainOf(d)
	if !p.right() {
		return impl.Disk{}, impl.ErrBad
	}
	if keep < 0 || keep > 60000 {
		return impl.Disk{}, impl.ErrRange
	}
	for ; keep > 0 && p.sure < len(p.all); keep-- {
		p.sure++
	}
	return surely(p.all[:p.sure]), impl.OK
}

func plainCut(d impl.Disk, n int) (impl.Disk, int) {
	p := plainOf(d)
	if !p.right() || p.sure < len(p.all) {
		return impl.Disk{}, impl.ErrBad
	}
	for to := range len(p.all) + 1 {
		if to == n {
			return surely(p.all[:to]), impl.OK
		}
	}
	return impl.Disk{}, impl.ErrRange
}

func plainReplace(d impl.Disk, t string) (impl.Disk, int) {
	switch {
	case len(t) > 65536:
		return impl.Disk{}, impl.ErrLong
	case !plainOf(d).right():
		return impl.Disk{}, impl.ErrBad
	case len(t) > 60000:
		return d, impl.ErrFull
	default:
		return surely([]byte(t)), impl.OK
	}
}

// marked has n bytes that tell where they stand, so that no piece of it is
// another one of its length.
func marked(n int, mark string) string {
	var b strings.Builder
	for i := 0; b.Len() < n; i++ {
		fmt.Fprintf(&b, "%s%d,", mark, i)
	}
	return b.String()[:n]
}

func diskOf(sure, pending int) impl.Disk {
	return impl.Disk{Sure: marked(sure, "s"), Pending: marked(pending, "p")}
}

// smallDisks have ordinary texts, empty ones, and bytes that are no text's.
func smallDisks() []impl.Disk {
	texts := []string{"", "a", "abc", "\x00", "\xff\xfe", "é€", "\xc3", "line\nline\n", "a b  c"}
	var all []impl.Disk
	for _, sure := range texts {
		for _, pending := range texts {
			all = append(all, impl.Disk{Sure: sure, Pending: pending})
		}
	}
	return all
}

// edgeDisks have all but a byte, just MaxBytes, and fewer by far, in both ways of
// parting them.
func edgeDisks() []impl.Disk {
	return []impl.Disk{
		diskOf(60000, 0), diskOf(0, 60000), diskOf(30000, 30000), diskOf(59999, 1), diskOf(1, 59999),
		diskOf(59999, 0), diskOf(0, 59999), diskOf(29999, 30000), diskOf(59998, 1), diskOf(1, 59998),
		diskOf(40000, 19990), diskOf(300, 5000), diskOf(5000, 0),
	}
}

func wrongDisks() []impl.Disk {
	return []impl.Disk{
		diskOf(60001, 0), diskOf(0, 60001), diskOf(60000, 1), diskOf(1, 60000), diskOf(30000, 30001),
		diskOf(60001, 60001), diskOf(60001, 3), diskOf(3, 60001), diskOf(60000, 60000), diskOf(40000, 40000),
		diskOf(65536, 0), diskOf(0, 65536), diskOf(65537, 0), diskOf(0, 65537), diskOf(65537, 65537), diskOf(100000, 200000),
	}
}

func rightDisks() []impl.Disk { return append(smallDisks(), edgeDisks()...) }

func oddDisks() []impl.Disk { return append(rightDisks(), wrongDisks()...) }

// diskTexts are such as fill a disk just, or are a byte too long for it, too.
func diskTexts(d impl.Disk) []string {
	texts := []string{"", "z", "\x00", "\xff", "ab", "\xac", marked(9, "t"), marked(10, "t"), marked(11, "t"),
		marked(59999, "t"), marked(60000, "t"), marked(60001, "t"), marked(65535, "t"), marked(65536, "t"), marked(65537, "t"), marked(200000, "t")}
	room := 60000 - len(d.Sure) - len(d.Pending)
	for _, n := range []int{room - 1, room, room + 1} {
		if n > 0 {
			texts = append(texts, marked(n, "t"))
		}
	}
	return texts
}

// diskNumbers are such as are at the ends of what is sure and pending, too.
func diskNumbers(d impl.Disk) []int {
	list := []int{math.MinInt, math.MinInt + 1, -60000, -2, -1, 0, 1, 2, 3, 59999, 60000, 60001, 65536, 1 << 31, 1 << 32, 1<<32 + 1, math.MaxInt - 1, math.MaxInt}
	for _, n := range []int{len(d.Sure), len(d.Pending), len(d.Sure) + len(d.Pending)} {
		list = append(list, n-1, n, n+1, n/2)
	}
	return list
}

func sizes(d impl.Disk) string {
	return fmt.Sprintf("%.20q (%d), %.20q (%d)", d.Sure, len(d.Sure), d.Pending, len(d.Pending))
}

// wantDisk holds an answer against what it must be, and asks whether it is right.
func wantDisk(t *testing.T, name string, from, got impl.Disk, code int, want impl.Disk, wantCode int) {
	t.Helper()
	if got != want || code != wantCode {
		t.Errorf("%s of %s: %s, %d, not %s, %d", name, sizes(from), sizes(got), code, sizes(want), wantCode)
	}
	if !impl.DiskOK(got) {
		t.Errorf("%s of %s: a disk that is not right: %s", name, sizes(from), sizes(got))
	}
}

func TestDisksWrittenOut(t *testing.T) {
	abc := impl.Disk{Sure: "abc", Pending: "de"}
	calls := []struct {
		name string
		do   func() (impl.Disk, int)
		want impl.Disk
		code int
	}{
		{"append to a new one", func() (impl.Disk, int) { return impl.AppendDisk(impl.Disk{}, "xy") }, impl.Disk{Pending: "xy"}, 0},
		{"append", func() (impl.Disk, int) { return impl.AppendDisk(abc, "fg") }, impl.Disk{Sure: "abc", Pending: "defg"}, 0},
		{"append nothing", func() (impl.Disk, int) { return impl.AppendDisk(abc, "") }, abc, 0},
		{"flush", func() (impl.Disk, int) { return impl.FlushDisk(abc) }, impl.Disk{Sure: "abcde"}, 0},
		{"flush a new one", func() (impl.Disk, int) { return impl.FlushDisk(impl.Disk{}) }, impl.Disk{}, 0},
		{"flush with nothing pending", func() (impl.Disk, int) { return impl.FlushDisk(impl.Disk{Sure: "abc"}) }, impl.Disk{Sure: "abc"}, 0},
		{"crash, keep none", func() (impl.Disk, int) { return impl.CrashDisk(abc, 0) }, impl.Disk{Sure: "abc"}, 0},
		{"crash, keep some", func() (impl.Disk, int) { return impl.CrashDisk(abc, 1) }, impl.Disk{Sure: "abcd"}, 0},
		{"crash, keep all", func() (impl.Disk, int) { return impl.CrashDisk(abc, 2) }, impl.Disk{Sure: "abcde"}, 0},
		{"crash, keep more", func() (impl.Disk, int) { return impl.CrashDisk(abc, 3) }, impl.Disk{Sure: "abcde"}, 0},
		{"crash, keep MaxBytes", func() (impl.Disk, int) { return impl.CrashDisk(abc, 60000) }, impl.Disk{Sure: "abcde"}, 0},
		{"crash, keep beyond it", func() (impl.Disk, int) { return impl.CrashDisk(abc, 60001) }, impl.Disk{}, 4},
		{"crash, keep below nought", func() (impl.Disk, int) { return impl.CrashDisk(abc, -1) }, impl.Disk{}, 4},
		{"crash with nothing pending", func() (impl.Disk, int) { return impl.CrashDisk(impl.Disk{Sure: "abc"}, 2) }, impl.Disk{Sure: "abc"}, 0},
		{"crash of a new one", func() (impl.Disk, int) { return impl.CrashDisk(impl.Disk{}, 0) }, impl.Disk{}, 0},
		{"cut", func() (impl.Disk, int) { return impl.CutDisk(impl.Disk{Sure: "abc"}, 2) }, impl.Disk{Sure: "ab"}, 0},
		{"cut all", func() (impl.Disk, int) { return impl.CutDisk(impl.Disk{Sure: "abc"}, 0) }, impl.Disk{}, 0},
		{"cut at the end", func() (impl.Disk, int) { return impl.CutDisk(impl.Disk{Sure: "abc"}, 3) }, impl.Disk{Sure: "abc"}, 0},
		{"cut behind it", func() (impl.Disk, int) { return impl.CutDisk(impl.Disk{Sure: "abc"}, 4) }, impl.Disk{}, 4},
		{"cut below nought", func() (impl.Disk, int) { return impl.CutDisk(impl.Disk{Sure: "abc"}, -1) }, impl.Disk{}, 4},
		{"cut a new one", func() (impl.Disk, int) { return impl.CutDisk(impl.Disk{}, 0) }, impl.Disk{}, 0},
		{"cut with something pending", func() (impl.Disk, int) { return impl.CutDisk(abc, 2) }, impl.Disk{}, 1},
		{"cut with something pending, out of bounds", func() (impl.Disk, int) { return impl.CutDisk(abc, 9) }, impl.Disk{}, 1},
		{"cut with all pending", func() (impl.Disk, int) { return impl.CutDisk(impl.Disk{Pending: "a"}, 0) }, impl.Disk{}, 1},
		{"replace", func() (impl.Disk, int) { return impl.ReplaceDisk(impl.Disk{Sure: "abc"}, "z") }, impl.Disk{Sure: "z"}, 0},
		{"replace with something pending", func() (impl.Disk, int) { return impl.ReplaceDisk(abc, "z") }, impl.Disk{Sure: "z"}, 0},
		{"replace by nothing", func() (impl.Disk, int) { return impl.ReplaceDisk(abc, "") }, impl.Disk{}, 0},
	}
	for _, call := range calls {
		if got, code := call.do(); got != call.want || code != call.code {
			t.Errorf("%s: %s, %d, not %s, %d", call.name, sizes(got), code, sizes(call.want), call.code)
		}
	}
}

func TestDisksThatAreRight(t *testing.T) {
	if impl.MaxBytes != 60000 || !impl.DiskOK(impl.Disk{}) {
		t.Error("MaxBytes, or a new disk, is not right")
	}
	for _, d := range rightDisks() {
		if !impl.DiskOK(d) {
			t.Error("not right:", sizes(d))
		}
	}
	for _, d := range wrongDisks() {
		if impl.DiskOK(d) {
			t.Error("right:", sizes(d))
		}
	}
}

func TestTextsBehindWhatIsPending(t *testing.T) {
	for _, d := range oddDisks() {
		for _, text := range diskTexts(d) {
			want, wantCode := plainAppend(d, text)
			got, code := impl.AppendDisk(d, text)
			wantDisk(t, fmt.Sprintf("AppendDisk %d", len(text)), d, got, code, want, wantCode)
			want, wantCode = plainReplace(d, text)
			got, code = impl.ReplaceDisk(d, text)
			wantDisk(t, fmt.Sprintf("ReplaceDisk %d", len(text)), d, got, code, want, wantCode)
		}
	}
}

func TestFlushesCrashesAndCuts(t *testing.T) {
	for _, d := range oddDisks() {
		want, wantCode := plainFlush(d)
		got, code := impl.FlushDisk(d)
		wantDisk(t, "FlushDisk", d, got, code, want, wantCode)
		for _, n := range diskNumbers(d) {
			want, wantCode = plainCrash(d, n)
			got, code = impl.CrashDisk(d, n)
			wantDisk(t, fmt.Sprint("CrashDisk ", n), d, got, code, want, wantCode)
			want, wantCode = plainCut(d, n)
			got, code = impl.CutDisk(d, n)
			wantDisk(t, fmt.Sprint("CutDisk ", n), d, got, code, want, wantCode)
		}
	}
}

// A text that is too long comes ahead of a disk that is not right, and that ahead
// of numbers and room.
func TestCodesOfDisksInTheirOrder(t *testing.T) {
	pending := impl.Disk{Sure: "abc", Pending: "d"}
	for _, d := range wrongDisks() {
		zero := func(name string, got impl.Disk, code, want int) {
			t.Helper()
			if got != (impl.Disk{}) || code != want {
				t.Errorf("%s of %s: %s, %d, not %d", name, sizes(d), sizes(got), code, want)
			}
		}
		got, code := impl.AppendDisk(d, long(65537))
		zero("AppendDisk", got, code, impl.ErrLong)
		got, code = impl.ReplaceDisk(d, long(65537))
		zero("ReplaceDisk", got, code, impl.ErrLong)
		for _, text := range []string{"", "a", long(60000), long(60001), long(65536)} {
			got, code = impl.AppendDisk(d, text)
			zero("AppendDisk", got, code, impl.ErrBad)
			got, code = impl.ReplaceDisk(d, text)
			zero("ReplaceDisk", got, code, impl.ErrBad)
		}
		got, code = impl.FlushDisk(d)
		zero("FlushDisk", got, code, impl.ErrBad)
		for _, n := range []int{math.MinInt, -1, 0, 1, 60000, 60001, 60002, math.MaxInt} {
			got, code = impl.CrashDisk(d, n)
			zero("CrashDisk", got, code, impl.ErrBad)
			got, code = impl.CutDisk(d, n)
			zero("CutDisk", got, code, impl.ErrBad)
			got, code = impl.CutDisk(pending, n)
			zero("CutDisk", got, code, impl.ErrBad)
		}
	}
}

// A full disk is answered as it was: no piece of the text that has no room is there.
func TestFullDisks(t *testing.T) {
	for sure := 0; sure <= 60000; sure += 7500 {
		for _, pending := range []int{0, 1, (60000 - sure) / 2, 60000 - sure} {
			d := diskOf(sure, min(pending, 60000-sure))
			room := 60000 - len(d.Sure) - len(d.Pending)
			text := marked(room, "t")
			full := impl.Disk{Sure: d.Sure, Pending: d.Pending + text}
			got, code := impl.AppendDisk(d, text)
			wantDisk(t, "AppendDisk", d, got, code, full, impl.OK)
			got, code = impl.AppendDisk(d, text+"t")
			wantDisk(t, "AppendDisk", d, got, code, d, impl.ErrFull)
			got, code = impl.AppendDisk(full, "t")
			wantDisk(t, "AppendDisk", full, got, code, full, impl.ErrFull)
			got, code = impl.AppendDisk(full, "")
			wantDisk(t, "AppendDisk", full, got, code, full, impl.OK)
			got, code = impl.ReplaceDisk(full, long(60000))
			wantDisk(t, "ReplaceDisk", full, got, code, impl.Disk{Sure: long(60000)}, impl.OK)
			got, code = impl.ReplaceDisk(d, long(60001))
			wantDisk(t, "ReplaceDisk", d, got, code, d, impl.ErrFull)
		}
	}
}

// diskRun is what was done to a disk: what was flushed, and what was laid down
// behind it, in order.
type diskRun struct {
	t          *testing.T
	d          impl.Disk
	sure, rest string
}

func (r *diskRun) set(name string, d impl.Disk, code int) {
	r.t.Helper()
	if code != impl.OK {
		r.t.Errorf("%s of %s: %d", name, sizes(r.d), code)
	}
	r.d = d
}

func (r *diskRun) want(name string) {
	r.t.Helper()
	if r.d != (impl.Disk{Sure: r.sure, Pending: r.rest}) || !impl.DiskOK(r.d) {
		r.t.Errorf("%s: %s, not %.20q (%d), %.20q (%d)", name, sizes(r.d), r.sure, len(r.sure), r.rest, len(r.rest))
	}
}

func (r *diskRun) lay(text string) {
	r.t.Helper()
	d, code := impl.AppendDisk(r.d, text)
	r.set("AppendDisk", d, code)
	r.rest += text
	r.want("AppendDisk")
}

func (r *diskRun) flush() {
	r.t.Helper()
	d, code := impl.FlushDisk(r.d)
	r.set("FlushDisk", d, code)
	r.sure, r.rest = r.sure+r.rest, ""
	r.want("FlushDisk")
}

// crash asks for the promise alone: all that was flushed, behind it a beginning of
// the rest, and of just as many bytes as were kept.
func (r *diskRun) crash(keep int) {
	r.t.Helper()
	d, code := impl.CrashDisk(r.d, keep)
	r.set("CrashDisk", d, code)
	beginning, found := strings.CutPrefix(r.d.Sure, r.sure)
	if !found || !strings.HasPrefix(r.rest, beginning) || r.d.Pending != "" {
		r.t.Errorf("crash that keeps %d: %s, of sure %.20q (%d), pending %.20q (%d)", keep, sizes(r.d), r.sure, len(r.sure), r.rest, len(r.rest))
	}
	if len(beginning) != min(keep, len(r.rest)) {
		r.t.Errorf("crash that keeps %d of %d: %d", keep, len(r.rest), len(beginning))
	}
	r.sure, r.rest = r.d.Sure, ""
}

func (r *diskRun) cut(n int) {
	r.t.Helper()
	d, code := impl.CutDisk(r.d, n)
	r.set("CutDisk", d, code)
	r.sure = r.sure[:n]
	r.want("CutDisk")
}

func (r *diskRun) replace(text string) {
	r.t.Helper()
	d, code := impl.ReplaceDisk(r.d, text)
	r.set("ReplaceDisk", d, code)
	r.sure, r.rest = text, ""
	r.want("ReplaceDisk")
}

// What was flushed is there behind all crashes, until it is cut or replaced.
func TestWhatIsFlushedSurvives(t *testing.T) {
	for seed := range 60 {
		r := &diskRun{t: t}
		state := uint32(seed)
		next := func(n int) int {
			state = state*1664525 + 1013904223
			return int(state>>8) % n
		}
		for at := range 80 {
			text := marked(next(300), fmt.Sprint(at, ":"))
			switch next(12) {
			case 0, 1:
				r.crash(next(400))
			case 2:
				r.crash([]int{0, 60000, len(r.rest), len(r.rest) / 2, len(r.rest) + 1}[next(5)])
			case 3, 4:
				r.flush()
			case 5:
				r.flush()
				r.flush()
			case 6:
				r.flush()
				r.cut(next(len(r.sure) + 1))
			case 7:
				if next(4) == 0 {
					r.replace(text)
				}
			default:
				r.lay(text)
			}
		}
	}
}

// Each crash of one disk keeps a beginning of each that keeps more, and one more
// byte is at most one more byte.
func TestCrashesOfOneDisk(t *testing.T) {
	for _, d := range append(smallDisks(), diskOf(500, 700), diskOf(0, 40), diskOf(59970, 30)) {
		last, _ := impl.CrashDisk(d, 0)
		if last.Sure != d.Sure {
			t.Error("a crash that keeps nothing:", sizes(last), "of", sizes(d))
		}
		for keep := 1; keep < len(d.Pending)+3; keep++ {
			got, code := impl.CrashDisk(d, keep)
			grown := len(got.Sure) - len(last.Sure)
			if code != impl.OK || !strings.HasPrefix(got.Sure, last.Sure) || grown < 0 || grown > 1 {
				t.Error("a crash that keeps", keep, sizes(got), "of", sizes(d), code)
			}
			if again, _ := impl.CrashDisk(got, keep); again != got {
				t.Error("one more crash:", sizes(again), "of", sizes(got))
			}
			last = got
		}
		if flushed, _ := impl.FlushDisk(d); last != flushed {
			t.Error("a crash that keeps all is not a flush:", sizes(last), "of", sizes(d))
		}
	}
}

// within says whether a text stands in the memory of another one.
func within(a, b string) bool {
	if a == "" || b == "" {
		return false
	}
	at, from := uintptr(unsafe.Pointer(unsafe.StringData(a))), uintptr(unsafe.Pointer(unsafe.StringData(b)))
	return at < from+uintptr(len(b)) && from < at+uintptr(len(a))
}

func TestDisksOfAnswersShareNoMemory(t *testing.T) {
	whole := marked(60, "w")
	for _, d := range append(rightDisks(), impl.Disk{Sure: whole[:40], Pending: whole[20:]}, impl.Disk{Sure: whole}, impl.Disk{Pending: whole}) {
		for _, text := range []string{"", whole, whole[:9], marked(60000, "t"), marked(60001, "t")} {
			var answers []impl.Disk
			keep := func(x impl.Disk, code int) { answers = append(answers, x) }
			for range 2 {
				keep(impl.AppendDisk(d, text))
				keep(impl.FlushDisk(d))
				keep(impl.CrashDisk(d, 0))
				keep(impl.CrashDisk(d, 2))
				keep(impl.CrashDisk(d, 60000))
				keep(impl.CutDisk(d, len(d.Sure)/2))
				keep(impl.CutDisk(d, len(d.Sure)))
				keep(impl.ReplaceDisk(d, text))
			}
			wantOwnTexts(t, answers, d.Sure, d.Pending, text, whole)
		}
	}
}

func wantOwnTexts(t *testing.T, answers []impl.Disk, given ...string) {
	t.Helper()
	var texts []string
	for _, d := range answers {
		texts = append(texts, d.Sure, d.Pending)
	}
	for i, a := range texts {
		for _, b := range texts[i+1:] {
			if len(a) > 1 && within(a, b) { // one byte may stand in memory of all
				t.Errorf("two texts of answers share memory: %.20q, %.20q", a, b)
			}
		}
		for _, b := range given {
			if len(a) > 1 && within(a, b) {
				t.Errorf("a text of an answer shares memory with what was given: %.20q, %.20q", a, b)
			}
		}
	}
}
