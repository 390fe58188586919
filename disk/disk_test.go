package disk

import (
	"fmt"
	"math"
	"strings"
	"testing"

	"careen/api"
)

// diskOf is a disk, in few words.
func diskOf(base, kept, pend string) api.Disk {
	return api.Disk{Base: base, Kept: kept, Pend: pend}
}

// mixture is a text of that many bytes, all values among them, in no plain order.
func mixture(size int) string {
	b := make([]byte, size)
	state := uint32(size)*2654435761 + 12345
	for i := range b {
		state = state*1664525 + 1013904223
		b[i] = byte(state >> 24)
	}
	return string(b)
}

// texts are short ones, of ordinary bytes, of signs of several bytes, and of bytes that are no signs.
func texts() []string {
	return []string{"", "a", "ab", "cdef", "\x00", "\xff\xfe\x80", "é", "日本", "x\ny", mixture(300)}
}

// disks are all that have such texts, and some that have more than a disk may have.
func disks() []api.Disk {
	var l []api.Disk
	for _, base := range texts() {
		for _, kept := range texts() {
			for _, pend := range texts() {
				l = append(l, diskOf(base, kept, pend))
			}
		}
	}
	over := mixture(100001)
	return append(l,
		diskOf(over, "", ""), diskOf(over, "ab", "cd"), diskOf("x", over, ""), diskOf("x", "", over),
		diskOf("", over, "cd"), diskOf("", "ab", over), diskOf(over, over, over), diskOf("x", over[1:], "c"),
	)
}

// keeps are how many bytes of a text a crash may keep, those that are too few and too many among them.
func keeps(pend string) []int {
	n := len(pend)
	return []int{
		0, 1, 2, n / 2, n - 1, n, n + 1, 2 * n, -1, -2, -n,
		100000, 100001, math.MaxInt32, math.MinInt32, 1 << 32, 1<<32 + 1, -1 << 32, 1 << 62, math.MaxInt, math.MinInt, math.MinInt + 1,
	}
}

// wantLog is the log by promise G1's words.
func wantLog(d api.Disk) string {
	return strings.Join([]string{d.Kept, d.Pend}, "")
}

// wantAppend is Append by promise G1's words.
func wantAppend(d api.Disk, s string) (api.Disk, api.Errno) {
	longer := diskOf(d.Base, d.Kept, strings.Join([]string{d.Pend, s}, ""))
	if len(wantLog(longer)) >= 100001 {
		return d, 50
	}
	return longer, 0
}

// wantSync is Sync by promise G1's words.
func wantSync(d api.Disk) api.Disk {
	return diskOf(d.Base, wantLog(d), "")
}

// wantCrash is Crash by promise G2's words.
func wantCrash(d api.Disk, keep int) api.Disk {
	var b strings.Builder
	b.WriteString(d.Kept)
	for i := range len(d.Pend) {
		if i < keep {
			b.WriteByte(d.Pend[i])
		}
	}
	return diskOf(d.Base, b.String(), "")
}

// wantSwap is Swap by promise G2's words.
func wantSwap(d api.Disk, base string) (api.Disk, api.Errno) {
	if len(base) >= 100001 {
		return d, 50
	}
	return diskOf(base, "", ""), 0
}

// brief tells a text, and how long it is.
func brief(s string) string {
	if len(s) <= 20 {
		return fmt.Sprintf("%q", s)
	}
	return fmt.Sprintf("%.8q.. of %d bytes", s, len(s))
}

// briefly tells a disk.
func briefly(d api.Disk) string {
	return "{" + brief(d.Base) + " " + brief(d.Kept) + " " + brief(d.Pend) + "}"
}

func checkDisk(t *testing.T, what string, got, want api.Disk) {
	t.Helper()
	if got != want {
		t.Errorf("%s = %s; want %s", what, briefly(got), briefly(want))
	}
}

func checkLog(t *testing.T, d api.Disk, want string) {
	t.Helper()
	if s := Log(d); s != want {
		t.Errorf("Log(%s) = %s; want %s", briefly(d), brief(s), brief(want))
	}
}

func checkAppend(t *testing.T, d api.Disk, s string, want api.Disk, wantE api.Errno) {
	t.Helper()
	got, e := Append(d, s)
	what := "Append(" + briefly(d) + ", " + brief(s) + ")"
	checkDisk(t, what, got, want)
	if e != wantE {
		t.Errorf("%s: error %d; want %d", what, e, wantE)
	}
}

func checkSync(t *testing.T, d, want api.Disk) {
	t.Helper()
	checkDisk(t, "Sync("+briefly(d)+")", Sync(d), want)
}

func checkCrash(t *testing.T, d api.Disk, keep int, want api.Disk) {
	t.Helper()
	checkDisk(t, fmt.Sprintf("Crash(%s, %d)", briefly(d), keep), Crash(d, keep), want)
}

func checkSwap(t *testing.T, d api.Disk, base string, want api.Disk, wantE api.Errno) {
	t.Helper()
	got, e := Swap(d, base)
	what := "Swap(" + briefly(d) + ", " + brief(base) + ")"
	checkDisk(t, what, got, want)
	if e != wantE {
		t.Errorf("%s: error %d; want %d", what, e, wantE)
	}
}

// checkWords holds what is done to a disk against the words.
func checkWords(t *testing.T, d api.Disk, s string, keep int) {
	t.Helper()
	checkLog(t, d, wantLog(d))
	checkSync(t, d, wantSync(d))
	checkCrash(t, d, keep, wantCrash(d, keep))
	x, e := wantAppend(d, s)
	checkAppend(t, d, s, x, e)
	x, e = wantSwap(d, s)
	checkSwap(t, d, s, x, e)
}

// checkOutlived is promise G3 of a disk that was crashed.
func checkOutlived(t *testing.T, d api.Disk, keep int) {
	t.Helper()
	x := Crash(d, keep)
	what := fmt.Sprintf("Crash(%s, %d) = %s", briefly(d), keep, briefly(x))
	if !strings.HasPrefix(Log(d), Log(x)) {
		t.Errorf("%s: its log is no beginning of what it was", what)
	}
	if !strings.HasPrefix(Log(x), d.Kept) {
		t.Errorf("%s: its log lost what was synced", what)
	}
	if x.Base != d.Base {
		t.Errorf("%s: its base is another one", what)
	}
	checkUncrashed(t, x)
}

// checkUncrashed is promise G3 of a disk that no crash changes, as one is behind a crash, a sync or a swap.
func checkUncrashed(t *testing.T, d api.Disk) {
	t.Helper()
	for _, keep := range []int{0, 1, -1, len(Log(d)), math.MaxInt, math.MinInt} {
		checkCrash(t, d, keep, d)
	}
	checkSync(t, d, d)
}

// The chapter's example.
func TestExample(t *testing.T) {
	var d api.Disk
	checkAppend(t, d, "ab", diskOf("", "", "ab"), api.OK)
	d, _ = Append(d, "ab")
	checkLog(t, d, "ab")
	checkSync(t, d, diskOf("", "ab", ""))
	d = Sync(d)
	checkLog(t, d, "ab")
	checkAppend(t, d, "cd", diskOf("", "ab", "cd"), api.OK)
	d, _ = Append(d, "cd")
	checkLog(t, d, "abcd")
	checkCrash(t, d, 1, diskOf("", "abc", ""))
	checkLog(t, Crash(d, 1), "abc")
}

// G1, written out.
func TestLogWrittenOut(t *testing.T) {
	checkLog(t, api.Disk{}, "")
	checkLog(t, diskOf("x", "", ""), "")
	checkLog(t, diskOf("x", "ab", ""), "ab")
	checkLog(t, diskOf("x", "", "cd"), "cd")
	checkLog(t, diskOf("x", "ab", "cd"), "abcd")
	checkLog(t, diskOf("", "\x00", "\xff"), "\x00\xff")
}

// G1, written out.
func TestAppendWrittenOut(t *testing.T) {
	checkAppend(t, api.Disk{}, "", api.Disk{}, api.OK)
	checkAppend(t, api.Disk{}, "a", diskOf("", "", "a"), api.OK)
	checkAppend(t, diskOf("x", "ab", "cd"), "", diskOf("x", "ab", "cd"), api.OK)
	checkAppend(t, diskOf("x", "ab", "cd"), "ef", diskOf("x", "ab", "cdef"), api.OK)
	checkAppend(t, diskOf("x", "ab", ""), "ef", diskOf("x", "ab", "ef"), api.OK)
	checkAppend(t, diskOf("x", "", "cd"), "cd", diskOf("x", "", "cdcd"), api.OK)
	checkAppend(t, diskOf("", "", "\xc3"), "\xa9\x00", diskOf("", "", "\xc3\xa9\x00"), api.OK)
}

// G1, written out.
func TestSyncWrittenOut(t *testing.T) {
	checkSync(t, api.Disk{}, api.Disk{})
	checkSync(t, diskOf("x", "", ""), diskOf("x", "", ""))
	checkSync(t, diskOf("x", "ab", ""), diskOf("x", "ab", ""))
	checkSync(t, diskOf("x", "", "cd"), diskOf("x", "cd", ""))
	checkSync(t, diskOf("x", "ab", "cd"), diskOf("x", "abcd", ""))
}

// G2, written out.
func TestCrashWrittenOut(t *testing.T) {
	d := diskOf("x", "ab", "cdef")
	checkCrash(t, d, math.MinInt, diskOf("x", "ab", ""))
	checkCrash(t, d, -1, diskOf("x", "ab", ""))
	checkCrash(t, d, 0, diskOf("x", "ab", ""))
	checkCrash(t, d, 1, diskOf("x", "abc", ""))
	checkCrash(t, d, 2, diskOf("x", "abcd", ""))
	checkCrash(t, d, 3, diskOf("x", "abcde", ""))
	checkCrash(t, d, 4, diskOf("x", "abcdef", ""))
	checkCrash(t, d, 5, diskOf("x", "abcdef", ""))
	checkCrash(t, d, math.MaxInt, diskOf("x", "abcdef", ""))
	for _, keep := range keeps("") {
		checkCrash(t, api.Disk{}, keep, api.Disk{})
		checkCrash(t, diskOf("x", "ab", ""), keep, diskOf("x", "ab", ""))
	}
}

// G2: bytes are kept, not signs: a sign may be torn.
func TestCrashTearsSigns(t *testing.T) {
	d := diskOf("", "é", "日本")
	for keep, want := range []string{"é", "é\xe6", "é\xe6\x97", "é日", "é日\xe6", "é日\xe6\x9c", "é日本"} {
		checkCrash(t, d, keep, diskOf("", want, ""))
	}
}

// G2, written out.
func TestSwapWrittenOut(t *testing.T) {
	checkSwap(t, api.Disk{}, "", api.Disk{}, api.OK)
	checkSwap(t, api.Disk{}, "new", diskOf("new", "", ""), api.OK)
	checkSwap(t, diskOf("x", "ab", "cd"), "new", diskOf("new", "", ""), api.OK)
	checkSwap(t, diskOf("x", "ab", "cd"), "x", diskOf("x", "", ""), api.OK)
	checkSwap(t, diskOf("x", "ab", "cd"), "", api.Disk{}, api.OK)
	checkSwap(t, diskOf("", "", "cd"), "\x00\xff", diskOf("\x00\xff", "", ""), api.OK)
}

// G1, G2: all disks of short texts, and those that have too much already.
func TestByTheWords(t *testing.T) {
	for _, d := range disks() {
		for _, s := range texts() {
			checkWords(t, d, s, len(s))
		}
		for _, keep := range keeps(d.Pend) {
			checkCrash(t, d, keep, wantCrash(d, keep))
		}
	}
}

// G1: an Append behind which the log has so many bytes, wherever the disk had them.
func TestAppendLimit(t *testing.T) {
	for _, total := range []int{99998, 99999, 100000, 100001, 100002, 200000} {
		want := api.OK
		if total > 100000 {
			want = api.ErrFull
		}
		log := mixture(total)
		for _, had := range []int{0, 1, 2, 50000, total - 99999, total - 50000, total - 2, total - 1, total} {
			if had < 0 {
				continue
			}
			for _, kept := range []int{0, 1, had / 2, had - 1, had} {
				if kept < 0 || kept > had {
					continue
				}
				d := diskOf("x", log[:kept], log[kept:had])
				x := d
				if want == api.OK {
					x.Pend = log[kept:]
				}
				checkAppend(t, d, log[had:], x, want)
			}
		}
	}
}

// G1: an empty text is appended to a full log, and to none that is more than full.
func TestAppendNothing(t *testing.T) {
	full, over := mixture(100000), mixture(100001)
	for _, base := range []string{"", "x", full, over} {
		for _, cut := range []int{0, 1, 50000, 99999, 100000} {
			d := diskOf(base, full[:cut], full[cut:])
			checkAppend(t, d, "", d, api.OK)
			checkAppend(t, d, "y", d, api.ErrFull)
			d = diskOf(base, over[:cut], over[cut:])
			checkAppend(t, d, "", d, api.ErrFull)
			checkAppend(t, d, "y", d, api.ErrFull)
		}
	}
}

// G1, G2: bytes are counted, not signs.
func TestBytesAreCounted(t *testing.T) {
	s := strings.Repeat("é", 50000)
	checkAppend(t, api.Disk{}, s, diskOf("", "", s), api.OK)
	checkAppend(t, api.Disk{}, s+"x", api.Disk{}, api.ErrFull)
	checkAppend(t, diskOf("", "é", ""), s, diskOf("", "é", ""), api.ErrFull)
	checkAppend(t, diskOf("", "", "é"), s, diskOf("", "", "é"), api.ErrFull)
	checkSwap(t, api.Disk{}, s, diskOf(s, "", ""), api.OK)
	checkSwap(t, diskOf("", "é", ""), s+"x", diskOf("", "é", ""), api.ErrFull)
}

// G1: a log is filled bit by bit; a sync makes no room, nor does a crash that keeps all; one that loses some does, and a swap does.
func TestFill(t *testing.T) {
	piece := mixture(4000)
	d := diskOf("x", "", "")
	for i := range 25 {
		x, e := Append(d, piece)
		if e != api.OK {
			t.Fatalf("piece %d: error %d", i, e)
		}
		d = x
		if i%3 == 0 {
			d = Sync(d)
		}
	}
	checkLog(t, d, strings.Repeat(piece, 25))
	for _, full := range []api.Disk{d, Sync(d), Crash(d, math.MaxInt)} {
		checkAppend(t, full, "y", full, api.ErrFull)
		checkAppend(t, full, "", full, api.OK)
	}
	d = diskOf("x", Log(d)[:99000], Log(d)[99000:])
	lost := Crash(d, 999)
	checkAppend(t, lost, "y", diskOf("x", lost.Kept, "y"), api.OK)
	checkAppend(t, lost, "yz", lost, api.ErrFull)
	swapped, _ := Swap(d, "new")
	checkAppend(t, swapped, mixture(100000), diskOf("new", "", mixture(100000)), api.OK)
}

// G2: a Swap to a base of so many bytes, whatever the disk has.
func TestSwapLimit(t *testing.T) {
	full := mixture(100000)
	for _, d := range []api.Disk{
		{}, diskOf("x", "ab", "cd"), diskOf(full, "", ""), diskOf("x", full, ""), diskOf("x", "", full),
		diskOf(full, full[:50000], full[50000:]), diskOf(full+"y", full+"y", full+"y"),
	} {
		for _, size := range []int{99998, 99999, 100000} {
			base := mixture(size)
			checkSwap(t, d, base, diskOf(base, "", ""), api.OK)
		}
		for _, size := range []int{100001, 100002, 200000} {
			checkSwap(t, d, mixture(size), d, api.ErrFull)
		}
	}
}

// G1, G2: the base and the log have room of their own.
func TestRoomOfTheirOwn(t *testing.T) {
	full := mixture(100000)
	checkAppend(t, diskOf(full, "", ""), full, diskOf(full, "", full), api.OK)
	checkAppend(t, diskOf(full+"y", "a", "b"), "c", diskOf(full+"y", "a", "bc"), api.OK)
	checkAppend(t, diskOf(full, full, ""), "c", diskOf(full, full, ""), api.ErrFull)
	checkSync(t, diskOf(full, "", full), diskOf(full, full, ""))
	checkCrash(t, diskOf(full, full[:1], full[1:]), 99999, diskOf(full, full, ""))
	checkSwap(t, diskOf(full, full, ""), full, diskOf(full, "", ""), api.OK)
}

// G1, G2: a sync and a crash are never refused, whatever the disk has, and lose nothing that they are to keep.
func TestLongPend(t *testing.T) {
	over := mixture(150001)
	for _, cut := range []int{0, 1, 75000, 100000, 150000, 150001} {
		d := diskOf("x", over[:cut], over[cut:])
		checkSync(t, d, diskOf("x", over, ""))
		for _, keep := range []int{0, 1, 49999, 50000, 50001, 99999, 100000, 100001, 150000, 150001, 150002} {
			checkCrash(t, d, keep, diskOf("x", over[:min(cut+keep, 150001)], ""))
		}
	}
}

// G3 of all disks, and all numbers of bytes that are kept.
func TestOutlived(t *testing.T) {
	for _, d := range disks() {
		if len(d.Pend) < 10 {
			for keep := -2; keep <= len(d.Pend)+2; keep++ {
				checkOutlived(t, d, keep)
			}
		}
		for _, keep := range keeps(d.Pend) {
			checkOutlived(t, d, keep)
		}
		checkUncrashed(t, Sync(d))
		x, _ := Swap(d, "new")
		checkUncrashed(t, x)
	}
}

// past is what one remembers who did something to disks: what the base and the log were to be, and how much of that was synced.
type past struct {
	base, log string
	synced    int
}

// deed is something that is done to a disk, and what one is to remember of it.
type deed struct {
	name     string
	do       func(d api.Disk) (api.Disk, api.Errno)
	remember func(p past) past
	want     api.Errno
}

func appends(s string, want api.Errno) deed {
	return deed{
		"append " + brief(s),
		func(d api.Disk) (api.Disk, api.Errno) { return Append(d, s) },
		func(p past) past {
			if want == api.OK {
				p.log += s
			}
			return p
		},
		want,
	}
}

func swaps(base string, want api.Errno) deed {
	return deed{
		"swap " + brief(base),
		func(d api.Disk) (api.Disk, api.Errno) { return Swap(d, base) },
		func(p past) past {
			if want == api.OK {
				p = past{base: base}
			}
			return p
		},
		want,
	}
}

func syncs() deed {
	return deed{
		"sync",
		func(d api.Disk) (api.Disk, api.Errno) { return Sync(d), api.OK },
		func(p past) past { return past{p.base, p.log, len(p.log)} },
		api.OK,
	}
}

func crashes(keep int) deed {
	return deed{
		fmt.Sprintf("crash %d", keep),
		func(d api.Disk) (api.Disk, api.Errno) { return Crash(d, keep), api.OK },
		func(p past) past {
			p.log = p.log[:min(len(p.log), p.synced+max(keep, 0))]
			p.synced = len(p.log)
			return p
		},
		api.OK,
	}
}

// deeds are what may be done to a disk whose log has few bytes.
func deeds() []deed {
	over := mixture(100001)
	return []deed{
		appends("ab", api.OK), appends("", api.OK), appends("é\x00", api.OK), appends(over, api.ErrFull),
		syncs(), crashes(0), crashes(-1), crashes(1), crashes(3), crashes(100001),
		swaps("new", api.OK), swaps("", api.OK), swaps(over, api.ErrFull),
	}
}

// walk does all that may be done to a disk, so many deeds deep, and holds the disk against what is remembered.
func walk(t *testing.T, way string, d api.Disk, p past, all []deed, depth int) {
	if d.Base != p.base || Log(d) != p.log || d.Kept != p.log[:p.synced] {
		t.Fatalf("%s: %s; want %q, %q, of which %d are synced", way, briefly(d), p.base, p.log, p.synced)
	}
	if depth == 0 {
		return
	}
	for _, x := range all {
		next, e := x.do(d)
		if e != x.want {
			t.Fatalf("%s, %s: error %d; want %d", way, x.name, e, x.want)
		}
		if e != api.OK && next != d {
			t.Fatalf("%s, %s: refused, and %s is %s", way, x.name, briefly(d), briefly(next))
		}
		walk(t, way+", "+x.name, next, x.remember(p), all, depth-1)
	}
}

// G1 to G3: all that may be done to a disk, four deeds deep, against what one remembers.
func TestWalk(t *testing.T) {
	walk(t, "begun", api.Disk{}, past{}, deeds(), 4)
}

// R4: an answer hangs on what is asked alone, whatever was asked ahead; and what was handed in is as it was.
func TestAgain(t *testing.T) {
	for _, d := range disks()[:200] {
		kept := diskOf(strings.Clone(d.Base), strings.Clone(d.Kept), strings.Clone(d.Pend))
		checkWords(t, d, "ef", 1)
		Append(d, mixture(100001))
		Swap(d, mixture(100001))
		Crash(diskOf("other", "other", "other"), 2)
		checkWords(t, d, "ef", 1)
		checkDisk(t, "what was handed in", d, kept)
	}
}

func FuzzDisk(f *testing.F) {
	for _, s := range texts() {
		f.Add("x", "ab", "cdef", s, len(s), uint32(0))
		f.Add(s, s, s, s, 1, uint32(99990))
	}
	f.Add("", "", "", "", math.MinInt, uint32(100000))
	f.Add("", "", "ab", "", math.MaxInt, uint32(100001))
	f.Fuzz(func(t *testing.T, base, kept, pend, s string, keep int, more uint32) {
		long := strings.Repeat("x", int(more%100010))
		for _, d := range []api.Disk{diskOf(base, kept, pend), diskOf(base, long+kept, pend), diskOf(base, kept, pend+long)} {
			checkWords(t, d, s, keep)
			checkWords(t, d, long+s, keep)
			checkOutlived(t, d, keep)
		}
	})
}
