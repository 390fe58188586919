package control

import (
	"fmt"
	"slices"
	"testing"

	"careen/api"
)

// checkRight holds Right to an answer, and asks that it writes into nothing.
func checkRight(t *testing.T, c api.Control, want bool) {
	t.Helper()
	in, written := held(c)
	if got := Right(in); got != want || Right(in) != got || written() {
		t.Errorf("Right(%s) = %v; want %v; was it written into? %v", say(c), got, want, written())
	}
}

// The chapter's example.
func TestExample(t *testing.T) {
	c, e := Join(New(3, 1, 1), 2, 2)
	if e != api.OK {
		t.Fatal(e)
	}
	refused(t, c, finalise(), api.ErrVersion)
	c, e = Report(c, 1, 2)
	if e != api.OK {
		t.Fatal(e)
	}
	c, e = Finalise(c)
	if e != api.OK || c.Level != 2 {
		t.Fatal(c, e)
	}
	refused(t, c, report(1, 1), api.ErrVersion)
	refused(t, c, report(2, 1), api.ErrVersion)
}

// X1: controllers that may be.
func TestRightOnes(t *testing.T) {
	l := rights()
	for _, c := range l {
		checkRight(t, c, true)
	}
	if len(l) < 200 {
		t.Error(len(l), "controllers alone")
	}
}

// X1: each way in which a controller is not right, alone and with another one.
func TestRightWrongs(t *testing.T) {
	for name, c := range wrongs() {
		if Right(c) {
			t.Error(name)
		}
		checkRight(t, c, false)
	}
}

// X1: all levels, with all binaries.
func TestRightLevels(t *testing.T) {
	for _, n := range numbers() {
		checkRight(t, con(n, run(1, 3, 2), api.Place{Owner: 2, Epoch: 1}), n == 1 || n == 2)
		checkRight(t, con(n, run(1, 3, 1), api.Place{Owner: 2, Epoch: 1}), n == 1)
		for i := range 8 {
			m := run(1, 8, 2)
			m[i].Bin = 1
			checkRight(t, con(n, m, api.Place{Owner: 2, Epoch: 1}), n == 1)
			m[i].Bin = 3
			checkRight(t, con(n, m, api.Place{Owner: 2, Epoch: 1}), false)
		}
	}
}

// X1: how many members, and how many places.
func TestRightCounts(t *testing.T) {
	for _, n := range []int{0, 1, 2, 7, 8, 9, 10, 100, 255, 256, 257, 264, 65537} {
		place := api.Place{Owner: 1, Epoch: 1}
		checkRight(t, con(1, run(1, n, 1), place), n >= 1 && n <= 8)
		checkRight(t, con(2, run(1, n, 2), place), n >= 1 && n <= 8)
		checkRight(t, con(1, run(1, 2, 1), slices.Repeat([]api.Place{place}, n)...), n >= 1 && n <= 8)
		checkRight(t, con(1, run(1, n, 1), slices.Repeat([]api.Place{place}, n)...), n >= 1 && n <= 8)
	}
}

// X1: all Names, one behind the other.
func TestRightNames(t *testing.T) {
	is := func(n int) bool { return n >= 1 && n <= 100 }
	for _, a := range numbers() {
		checkRight(t, con(1, mems(a, 1), api.Place{Owner: a, Epoch: 1}), is(a))
		for _, b := range numbers() {
			rise := is(a) && is(b) && a < b
			checkRight(t, con(1, mems(a, 1, b, 2), api.Place{Owner: a, Epoch: 1}), rise)
			checkRight(t, con(1, mems(a, 1, b, 2), api.Place{Owner: b, Epoch: 1}), rise)
			for _, c := range []int{0, 1, 5, 6, 50, 100, 101} {
				checkRight(t, con(1, mems(a, 1, b, 2, c, 1), api.Place{Owner: a, Epoch: 1}), rise && is(c) && b < c)
			}
		}
	}
}

// X1: all Bins, at each level.
func TestRightBins(t *testing.T) {
	for _, n := range append(bins(), numbers()...) {
		for i := range 8 {
			m := run(4, 11, 2)
			m[i].Bin = n
			checkRight(t, con(1, m, api.Place{Owner: 4, Epoch: 1}), n == 1 || n == 2)
			checkRight(t, con(2, m, api.Place{Owner: 4, Epoch: 1}), n == 2)
		}
	}
}

// X1: all Owners, to whom a place moves, and epochs, at each place.
func TestRightPlaces(t *testing.T) {
	names := []int{1, 5, 9, 50, 100}
	var m []api.Member
	for _, n := range names {
		m = append(m, api.Member{Name: n, Bin: 1})
	}
	for i := range 8 {
		of := func(p api.Place) api.Control {
			l := slices.Repeat([]api.Place{{Owner: 5, Epoch: 1}}, 8)
			l[i] = p
			return con(1, m, l...)
		}
		for _, n := range numbers() {
			member := slices.Contains(names, n)
			checkRight(t, of(api.Place{Owner: n, Epoch: 1}), member)
			checkRight(t, of(api.Place{Owner: 5, Epoch: n}), n >= 1 && n <= most)
			checkRight(t, of(api.Place{Owner: 5, Epoch: n, To: 9}), n >= 1 && n <= most)
			for _, owner := range names {
				checkRight(t, of(api.Place{Owner: owner, Epoch: 1, To: n}), n == 0 || member && n != owner)
				checkRight(t, of(api.Place{Owner: n, Epoch: 1, To: owner}), member && n != owner)
			}
		}
	}
}

// X2: written out.
func TestNewWrittenOut(t *testing.T) {
	one := api.Place{Owner: 7, Epoch: 1}
	for _, x := range []struct {
		shards, bin int
		want        api.Control
	}{
		{1, 1, con(1, mems(7, 1), one)},
		{1, 2, con(1, mems(7, 2), one)},
		{3, 1, con(1, mems(7, 1), one, one, one)},
		{8, 2, con(1, mems(7, 2), one, one, one, one, one, one, one, one)},
	} {
		if c := New(x.shards, 7, x.bin); !same(c, x.want) {
			t.Errorf("New(%d, 7, %d) = %v; want %v", x.shards, x.bin, c, x.want)
		}
	}
	for _, x := range [][3]int{{0, 1, 1}, {-1, 1, 1}, {9, 1, 1}, {1, 0, 1}, {1, -1, 1}, {1, 101, 1}, {1, 1, 0}, {1, 1, 3}, {1, 1, -1}, {0, 0, 0}, {9, 101, 3}} {
		if c := New(x[0], x[1], x[2]); !same(c, api.Control{}) {
			t.Errorf("New(%v) = %v; want nothing", x, c)
		}
	}
}

// X2: all numbers of shards, Names and Bins; what comes out is new memory.
func TestNewByTheWords(t *testing.T) {
	for _, shards := range numbers() {
		for _, host := range numbers() {
			for _, bin := range bins() {
				want := api.Control{}
				if shards >= 1 && shards <= 8 && host >= 1 && host <= 100 && (bin == 1 || bin == 2) {
					want = con(1, mems(host, bin))
					for range shards {
						want.Places = append(want.Places, api.Place{Owner: host, Epoch: 1})
					}
				}
				a, b := New(shards, host, bin), New(shards, host, bin)
				overwrite(a)
				if !same(b, want) || !same(New(shards, host, bin), want) {
					t.Fatalf("New(%d, %d, %d) = %v; want %v", shards, host, bin, b, want)
				}
				if len(want.Places) > 0 != Right(b) {
					t.Fatalf("New(%d, %d, %d): is it right? %v", shards, host, bin, Right(b))
				}
			}
		}
	}
}

// The oracle itself: it tells each answer, of each call.
func TestWantTellsAll(t *testing.T) {
	told := map[string]int{}
	note := func(what string, e api.Errno) { told[fmt.Sprint(what, " ", int(e))]++ }
	l := rights()
	for _, c := range wrongs() {
		l = append(l, c)
	}
	for _, c := range l {
		for _, n := range numbers() {
			for _, m := range []int{0, 1, 2, 3} {
				_, e := wantJoin(c, n, m)
				note("join", e)
				_, e = wantReport(c, n, m)
				note("report", e)
				_, e = wantPlan(c, m, n)
				note("plan", e)
			}
			_, e := wantCommit(c, n)
			note("commit", e)
			_, e = wantCancel(c, n)
			note("cancel", e)
		}
		_, e := wantFinalise(c)
		note("finalise", e)
		_, _, is := wantBalance(c)
		told[fmt.Sprint("balance ", is)]++
	}
	want := []string{"join 0", "join 1", "join 22", "join 50", "report 0", "report 1", "report 22", "report 70", "finalise 0", "finalise 1", "finalise 22", "plan 0", "plan 1", "plan 50", "plan 70", "plan 83", "plan 92", "commit 0", "commit 1", "commit 50", "commit 70", "commit 83", "cancel 0", "cancel 1", "cancel 70", "cancel 83", "balance true", "balance false"}
	for _, s := range want {
		if told[s] < 20 {
			t.Errorf("%q is told %d times", s, told[s])
		}
	}
	if len(told) != len(want) {
		t.Errorf("told: %v", told)
	}
}
