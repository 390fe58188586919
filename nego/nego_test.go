package nego

import (
	"fmt"
	"math"
	"testing"

	"careen/api"
)

const mostFeat = 1048575 // 2^20 - 1

// hi is a hello, in few words.
func hi(low, high, feat int) api.Hello {
	return api.Hello{Low: low, High: high, Feat: feat}
}

// numbers are those at which a version, a binary or a level becomes one that may not be, and those that might be taken for others.
func numbers() []int {
	return []int{
		-3, -2, -1, 0, 1, 2, 3, 4, 127, 128, 129, 255, 256, 257, 258, -255, -254,
		1 << 16, 1<<16 + 1, 1<<16 + 2, math.MaxInt32, math.MinInt32, 1 << 32, 1<<32 + 1, 1<<32 + 2, -1 << 32, 1 - 1<<32, 2 - 1<<32,
		1 << 62, 1<<62 + 1, math.MaxInt - 1, math.MaxInt, math.MinInt, math.MinInt + 1, math.MinInt + 2,
	}
}

// feats are features that may be: none, all, each bit alone, each bit left out, and mixtures.
func feats() []int {
	l := []int{0, mostFeat, 5, 6, 7, 8, 9, 15, 0xf5, 0x3f, 0xff, 0xaaaaa, 0x55555, 0xf0f0f, 0x12345, mostFeat - 7}
	for i := range 20 {
		l = append(l, 1<<i, mostFeat-1<<i)
	}
	return l
}

// wrongFeats are features that may not be.
func wrongFeats() []int {
	return []int{
		-1, -2, -7, -8, -mostFeat, -mostFeat - 1, mostFeat + 1, mostFeat + 2, mostFeat + 8, 1 << 21, 1<<21 - 1,
		math.MaxInt32, math.MinInt32, 1 << 32, 1<<32 + 7, 1 << 53, 1 << 62, math.MaxInt, math.MinInt, math.MinInt + 7,
	}
}

// rights are the hellos that may be of some features.
func rights(feats []int) []api.Hello {
	var l []api.Hello
	for _, f := range feats {
		l = append(l, hi(1, 1, f), hi(1, 2, f), hi(2, 2, f))
	}
	return l
}

// wrongs are hellos that may not be: by one number, or by several.
func wrongs() []api.Hello {
	var l []api.Hello
	for _, low := range numbers() {
		for _, high := range numbers() {
			if !wantRight(hi(low, high, 7)) {
				l = append(l, hi(low, high, 0), hi(low, high, 7), hi(low, high, mostFeat), hi(low, high, -1), hi(low, high, mostFeat+1))
			}
		}
	}
	for _, f := range wrongFeats() {
		l = append(l, hi(1, 1, f), hi(1, 2, f), hi(2, 2, f))
	}
	return l
}

// wantRight is promise I1 by its words.
func wantRight(h api.Hello) bool {
	if h.Low < 1 || h.Low > h.High {
		return false
	}
	if h.High > 2 {
		return false
	}
	return !(h.Feat < 0 || h.Feat > 1048575)
}

// wantOf is promise I2 by its words.
func wantOf(binary, level int) api.Hello {
	switch {
	case binary == 1:
		return hi(1, 1, 7)
	case binary == 2 && level == 2:
		return hi(2, 2, 1048575)
	case binary == 2:
		return hi(1, 2, 1048575)
	}
	return hi(0, 0, 0)
}

// wantAgree is promise I3 by its words: each version, and each bit, one by one.
func wantAgree(a, b api.Hello) (api.Deal, api.Errno) {
	if !wantRight(a) || !wantRight(b) {
		return api.Deal{}, 1
	}
	var d api.Deal
	for v := 1; v <= 2; v++ {
		if speaks(a, v) && speaks(b, v) {
			d.Version = v
		}
	}
	if d.Version == 0 {
		return api.Deal{}, 22
	}
	bits := 20
	if d.Version == 1 {
		bits = 3
	}
	for i := range bits {
		if has(a.Feat, i) && has(b.Feat, i) {
			d.Feat += 1 << i
		}
	}
	return d, 0
}

// speaks tells whether a version is from Low to High.
func speaks(h api.Hello, v int) bool {
	return h.Low <= v && v <= h.High
}

// has tells whether a number that is not negative has the i-th bit.
func has(feat, i int) bool {
	return feat>>i%2 == 1
}

// within tells whether all bits that one has the other has, too.
func within(feat, other int) bool {
	for i := range 64 {
		if uint64(feat)>>i%2 == 1 && uint64(other)>>i%2 == 0 {
			return false
		}
	}
	return true
}

// knowsAll tells whether one knows all that another one knows.
func knowsAll(h, other api.Hello) bool {
	return h.Low <= other.Low && h.High >= other.High && within(other.Feat, h.Feat)
}

func checkRight(t *testing.T, h api.Hello, want bool) {
	t.Helper()
	if Right(h) != want {
		t.Errorf("Right(%v) = %v; want %v", h, !want, want)
	}
}

func checkOf(t *testing.T, binary, level int, want api.Hello) {
	t.Helper()
	if h := Of(binary, level); h != want {
		t.Errorf("Of(%d, %d) = %v; want %v", binary, level, h, want)
	}
}

// checkSide holds Agree of two, in this order, to what it is to answer.
func checkSide(t *testing.T, a, b api.Hello, want api.Deal, wantE api.Errno) {
	t.Helper()
	if d, e := Agree(a, b); d != want || e != wantE {
		t.Errorf("Agree(%v, %v) = %v, %d; want %v, %d", a, b, d, e, want, wantE)
	}
}

// checkAgree holds both sides to the same.
func checkAgree(t *testing.T, a, b api.Hello, version, feat int) {
	t.Helper()
	d := api.Deal{Version: version, Feat: feat}
	checkSide(t, a, b, d, api.OK)
	checkSide(t, b, a, d, api.OK)
}

// checkErr holds both sides to an error, with nothing beside it.
func checkErr(t *testing.T, a, b api.Hello, want api.Errno) {
	t.Helper()
	checkSide(t, a, b, api.Deal{}, want)
	checkSide(t, b, a, api.Deal{}, want)
}

// checkWords holds Agree against the words.
func checkWords(t *testing.T, a, b api.Hello) {
	t.Helper()
	d, e := wantAgree(a, b)
	checkSide(t, a, b, d, e)
	checkSide(t, b, a, d, e)
}

// The chapter's example.
func TestExample(t *testing.T) {
	checkAgree(t, Of(1, 1), Of(2, 1), 1, 7)
	checkErr(t, Of(1, 2), Of(2, 2), api.ErrVersion)
}

// I1: written out.
func TestRightWrittenOut(t *testing.T) {
	for _, f := range []int{0, 1, 7, 8, 1048574, 1048575} {
		checkRight(t, hi(1, 1, f), true)
		checkRight(t, hi(1, 2, f), true)
		checkRight(t, hi(2, 2, f), true)
		for _, l := range [][2]int{{0, 0}, {0, 1}, {0, 2}, {0, 3}, {1, 0}, {1, 3}, {2, 0}, {2, 1}, {2, 3}, {3, 0}, {3, 1}, {3, 2}, {3, 3}, {-1, 1}, {-1, 2}, {1, -1}, {-1, -1}, {-2, -1}} {
			checkRight(t, hi(l[0], l[1], f), false)
		}
	}
	for _, f := range []int{-1, 1048576, math.MinInt, math.MaxInt} {
		checkRight(t, hi(1, 1, f), false)
		checkRight(t, hi(1, 2, f), false)
		checkRight(t, hi(2, 2, f), false)
	}
	checkRight(t, api.Hello{}, false)
}

// I1: all edges of all three numbers.
func TestRightByTheWords(t *testing.T) {
	for _, low := range numbers() {
		for _, high := range numbers() {
			for _, f := range append(feats(), wrongFeats()...) {
				checkRight(t, hi(low, high, f), wantRight(hi(low, high, f)))
			}
		}
	}
}

// I2: written out.
func TestOfWrittenOut(t *testing.T) {
	for _, level := range []int{1, 0, 3, -1, -2, math.MaxInt, math.MinInt} {
		checkOf(t, 1, level, hi(1, 1, 7))
		checkOf(t, 2, level, hi(1, 2, 1048575))
	}
	checkOf(t, 1, 2, hi(1, 1, 7))
	checkOf(t, 2, 2, hi(2, 2, 1048575))
}

// I2: nothing of a binary that is neither 1 nor 2, at any level.
func TestOfNoBinary(t *testing.T) {
	for _, binary := range []int{0, 3, 4, -1, -2, 257, 258, 1<<32 + 1, 1<<32 + 2, math.MaxInt, math.MinInt, math.MinInt + 1, math.MinInt + 2} {
		for _, level := range numbers() {
			checkOf(t, binary, level, api.Hello{})
		}
	}
}

// I2: all binaries at all levels; what there is of them may be.
func TestOfByTheWords(t *testing.T) {
	for _, binary := range numbers() {
		for _, level := range numbers() {
			checkOf(t, binary, level, wantOf(binary, level))
			checkRight(t, Of(binary, level), binary == 1 || binary == 2)
		}
	}
}

// I3: the greatest version that both have, and the bits that both have, of version 1 only the lowest three: written out.
func TestAgreeWrittenOut(t *testing.T) {
	checkAgree(t, hi(1, 1, 7), hi(1, 1, 7), 1, 7)
	checkAgree(t, hi(1, 1, 7), hi(1, 2, 1048575), 1, 7)
	checkAgree(t, hi(1, 1, 1048575), hi(1, 1, 1048575), 1, 7)
	checkAgree(t, hi(1, 1, 1048575), hi(1, 2, 1048575), 1, 7)
	checkAgree(t, hi(1, 2, 1048575), hi(1, 2, 1048575), 2, 1048575)
	checkAgree(t, hi(1, 2, 1048575), hi(2, 2, 1048575), 2, 1048575)
	checkAgree(t, hi(2, 2, 1048575), hi(2, 2, 1048575), 2, 1048575)
	checkAgree(t, hi(1, 2, 0xf5), hi(1, 1, 0xff), 1, 5)
	checkAgree(t, hi(1, 2, 0xf5), hi(2, 2, 0x3f), 2, 0x35)
	checkAgree(t, hi(1, 2, 0xaaaaa), hi(1, 2, 0x55555), 2, 0)
	checkAgree(t, hi(1, 2, 0xaaaaa), hi(1, 2, 0xf0f0f), 2, 0xa0a0a)
	checkAgree(t, hi(1, 1, 0xfffff), hi(1, 2, 0xffff8), 1, 0)
	checkAgree(t, hi(1, 1, 8), hi(1, 2, 8), 1, 0)
	checkAgree(t, hi(1, 2, 8), hi(1, 2, 8), 2, 8)
	checkAgree(t, hi(1, 1, 4), hi(1, 1, 6), 1, 4)
	checkAgree(t, hi(1, 1, 3), hi(1, 1, 4), 1, 0)
	checkAgree(t, hi(1, 1, 0), hi(1, 1, 0), 1, 0)
	checkAgree(t, hi(2, 2, 0), hi(1, 2, 1048575), 2, 0)
}

// I3: two that may be, with no version in both.
func TestAgreeVersion(t *testing.T) {
	for _, f := range feats() {
		for _, g := range feats() {
			checkErr(t, hi(1, 1, f), hi(2, 2, g), api.ErrVersion)
		}
	}
}

// I3: the first one, the second one, or both may not be.
func TestAgreeWrong(t *testing.T) {
	right := rights([]int{0, 7, mostFeat})
	for _, w := range wrongs() {
		for _, h := range right {
			checkErr(t, w, h, api.ErrArg)
		}
		checkErr(t, w, w, api.ErrArg)
	}
	few := []api.Hello{{}, hi(0, 1, 7), hi(2, 1, 7), hi(1, 3, 7), hi(3, 3, 7), hi(1, 1, -1), hi(2, 2, -1), hi(1, 2, mostFeat+1), hi(1, 1, math.MinInt), hi(2, 2, math.MaxInt)}
	for _, a := range few {
		for _, b := range few {
			checkErr(t, a, b, api.ErrArg)
		}
	}
}

// I3: all pairs of hellos that may be.
func TestAgreeByTheWords(t *testing.T) {
	l := rights(feats())
	for _, a := range l {
		for _, b := range l {
			checkWords(t, a, b)
		}
	}
}

// I3: all edges of all numbers of both.
func TestEdgesByTheWords(t *testing.T) {
	var l []api.Hello
	for low := -1; low <= 4; low++ {
		for high := -1; high <= 4; high++ {
			for _, f := range []int{-1, 0, 7, 8, mostFeat, mostFeat + 1} {
				l = append(l, hi(low, high, f))
			}
		}
	}
	for _, a := range l {
		for _, b := range l {
			checkWords(t, a, b)
		}
	}
}

// I2, I3: what binaries agree on, at all levels.
func TestBinaries(t *testing.T) {
	for _, c := range []struct {
		a, b api.Hello
		want api.Deal
		e    api.Errno
	}{
		{Of(1, 1), Of(1, 1), api.Deal{Version: 1, Feat: 7}, api.OK},
		{Of(1, 1), Of(2, 1), api.Deal{Version: 1, Feat: 7}, api.OK},
		{Of(2, 1), Of(2, 1), api.Deal{Version: 2, Feat: 1048575}, api.OK},
		{Of(1, 2), Of(1, 2), api.Deal{Version: 1, Feat: 7}, api.OK},
		{Of(2, 2), Of(2, 2), api.Deal{Version: 2, Feat: 1048575}, api.OK},
		{Of(2, 1), Of(2, 2), api.Deal{Version: 2, Feat: 1048575}, api.OK}, // one that did not hear yet that it is final
		{Of(1, 1), Of(2, 2), api.Deal{}, api.ErrVersion},
		{Of(1, 2), Of(2, 2), api.Deal{}, api.ErrVersion},
		{Of(0, 1), Of(1, 1), api.Deal{}, api.ErrArg},
		{Of(3, 2), Of(2, 2), api.Deal{}, api.ErrArg},
		{Of(0, 1), Of(3, 1), api.Deal{}, api.ErrArg},
	} {
		checkSide(t, c.a, c.b, c.want, c.e)
		checkSide(t, c.b, c.a, c.want, c.e)
	}
}

// I4: both sides agree on the same, or neither does, for the same reason.
func TestSameForBoth(t *testing.T) {
	l := append(rights(feats()), hi(0, 1, 7), hi(2, 1, 7), hi(1, 3, 7), hi(1, 2, -1), hi(2, 2, mostFeat+1), hi(1, 1, math.MinInt))
	for _, a := range l {
		for _, b := range l {
			d, e := Agree(a, b)
			checkSide(t, b, a, d, e)
		}
	}
}

// I4: what was agreed on both know, and version 2 is agreed on just if both know it.
func TestBothKnow(t *testing.T) {
	l := rights(feats())
	for _, a := range l {
		for _, b := range l {
			d, e := Agree(a, b)
			if both := speaks(a, 2) && speaks(b, 2); both != (d.Version == 2) {
				t.Errorf("Agree(%v, %v) = %v, %d; both know version 2: %v", a, b, d, e, both)
			}
			if e != api.OK {
				continue
			}
			if !speaks(a, d.Version) || !speaks(b, d.Version) || !within(d.Feat, a.Feat) || !within(d.Feat, b.Feat) {
				t.Errorf("Agree(%v, %v) = %v, which not both know", a, b, d)
			}
		}
	}
}

// I4: who knows more agrees on no less, with each other one.
func TestMoreIsNoLess(t *testing.T) {
	l := rights([]int{0, 1, 4, 5, 7, 8, 13, 0xf5, 0x3f, mostFeat - 7, mostFeat - 1, mostFeat})
	for _, less := range l {
		for _, more := range l {
			if !knowsAll(more, less) {
				continue
			}
			for _, b := range l {
				d, e := Agree(less, b)
				if e != api.OK {
					continue
				}
				if m, e := Agree(more, b); e != api.OK || m.Version < d.Version || !within(d.Feat, m.Feat) {
					t.Errorf("with %v: %v agrees on %v, %v, which knows more, on %v, %d", b, less, d, more, m, e)
				}
			}
		}
	}
}

// R3, R4: what is done to an answer, and what was asked before, changes no answer.
func TestAskedAgain(t *testing.T) {
	for range 2 {
		for binary := -1; binary <= 3; binary++ {
			for level := -1; level <= 3; level++ {
				checkOf(t, binary, level, wantOf(binary, level))
				h := Of(binary, level)
				h.Low, h.High, h.Feat = 9, 9, 9
				checkErr(t, h, Of(2, 1), api.ErrArg)
				checkAgree(t, Of(1, 1), Of(2, 1), 1, 7)
				checkAgree(t, Of(2, 2), Of(2, 1), 2, mostFeat)
			}
		}
	}
}

// The oracle itself: it tells each of the two errors, and both versions.
func TestWantTellsAll(t *testing.T) {
	told := map[string]int{}
	l := append(rights(feats()), wrongs()[:20]...)
	for _, a := range l {
		for _, b := range l {
			d, e := wantAgree(a, b)
			told[fmt.Sprintf("%d %d", d.Version, e)]++
		}
	}
	for _, s := range []string{"1 0", "2 0", "0 1", "0 22"} {
		if told[s] < 100 {
			t.Errorf("%q is told %d times", s, told[s])
		}
	}
	if len(told) != 4 {
		t.Errorf("told: %v", told)
	}
}

func FuzzOf(f *testing.F) {
	f.Add(1, 1)
	f.Add(2, 2)
	f.Add(0, 3)
	f.Fuzz(func(t *testing.T, binary, level int) {
		checkOf(t, binary, level, wantOf(binary, level))
	})
}

func FuzzAgree(f *testing.F) {
	f.Add(1, 1, 7, 1, 2, mostFeat)
	f.Add(1, 1, 7, 2, 2, mostFeat)
	f.Add(1, 2, 0xf5, 2, 2, 0x3f)
	f.Add(0, 3, -1, 2, 1, mostFeat+1)
	f.Fuzz(func(t *testing.T, low, high, feat, low2, high2, feat2 int) {
		a, b := hi(low, high, feat), hi(low2, high2, feat2)
		checkRight(t, a, wantRight(a))
		checkRight(t, b, wantRight(b))
		checkWords(t, a, b)
	})
}
