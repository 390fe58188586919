package control

import (
	"math"
	"slices"
	"testing"

	"careen/api"
)

// X3: Join, written out: ahead of all, between them, and behind all.
func TestJoinWrittenOut(t *testing.T) {
	c := base()
	for _, x := range []struct {
		name, bin int
		want      []api.Member
	}{
		{1, 1, mems(1, 1, 2, 1, 5, 2, 9, 1)},
		{1, 2, mems(1, 2, 2, 1, 5, 2, 9, 1)},
		{3, 1, mems(2, 1, 3, 1, 5, 2, 9, 1)},
		{4, 2, mems(2, 1, 4, 2, 5, 2, 9, 1)},
		{6, 1, mems(2, 1, 5, 2, 6, 1, 9, 1)},
		{8, 2, mems(2, 1, 5, 2, 8, 2, 9, 1)},
		{10, 1, mems(2, 1, 5, 2, 9, 1, 10, 1)},
		{100, 2, mems(2, 1, 5, 2, 9, 1, 100, 2)},
	} {
		check(t, c, join(x.name, x.bin), con(1, x.want, c.Places...), api.OK)
	}
	check(t, final(), join(3, 2), con(2, mems(2, 2, 3, 2, 5, 2, 9, 2), c.Places...), api.OK)
	check(t, final(), join(1, 2), con(2, mems(1, 2, 2, 2, 5, 2, 9, 2), c.Places...), api.OK)
	check(t, final(), join(100, 2), con(2, mems(2, 2, 5, 2, 9, 2, 100, 2), c.Places...), api.OK)
}

// X3: Join, what is refused.
func TestJoinRefused(t *testing.T) {
	for _, n := range []int{0, -1, -2, 101, 102, 257, 1<<32 + 3, math.MaxInt, math.MinInt} {
		refused(t, base(), join(n, 1), api.ErrArg)
		refused(t, final(), join(n, 2), api.ErrArg)
	}
	for _, bin := range []int{0, 3, -1, 257, 258, 1<<32 + 1, 1<<32 + 2, math.MaxInt, math.MinInt} {
		refused(t, base(), join(3, bin), api.ErrArg)
		refused(t, final(), join(3, bin), api.ErrArg)
	}
	for _, m := range base().Members {
		for bin := 1; bin <= 2; bin++ {
			refused(t, base(), join(m.Name, bin), api.ErrArg)
			refused(t, final(), join(m.Name, bin), api.ErrArg)
		}
	}
	refused(t, final(), join(1, 1), api.ErrVersion)
	refused(t, final(), join(3, 1), api.ErrVersion)
	refused(t, final(), join(100, 1), api.ErrVersion)
}

// X3: Join, up to where there is no room.
func TestJoinFull(t *testing.T) {
	for _, names := range [][]int{{1, 2, 3, 4, 5, 6, 7, 8, 9, 10}, {100, 99, 98, 97, 96, 95, 94, 93, 92}, {50, 1, 100, 25, 75, 2, 99, 49, 51}} {
		for bin := 1; bin <= 2; bin++ {
			c := New(2, names[0], bin)
			for i, n := range names[1:] {
				next, e := Join(c, n, bin)
				if (e == api.OK) != (i < 7) || e != api.OK && (e != api.ErrFull || !same(next, c)) {
					t.Fatalf("Join(%v, %d, %d) = %v, %d", c, n, bin, next, e)
				}
				c = next
			}
			was := slices.Sorted(slices.Values(names[:8]))
			for i, m := range c.Members {
				if len(c.Members) != 8 || m.Name != was[i] || m.Bin != bin {
					t.Fatalf("behind %v: %v", names, c)
				}
			}
		}
	}
}

// X3: Join, all that may be wrong at once, in the order of the words.
func TestJoinOrder(t *testing.T) {
	for faults := range 1 << 6 {
		has := func(i int) bool { return faults>>i&1 == 1 }
		c, name, bin := con(1, mems(2, 2, 5, 2), placesOf(run(2, 2, 2), 3, 0)...), 3, 2
		e := api.OK
		if has(5) { // no room
			c.Members, e = mems(2, 2, 5, 2, 11, 2, 12, 2, 13, 2, 14, 2, 15, 2, 16, 2), api.ErrFull
		}
		if has(4) { // the level 2, and the binary 1
			c.Level, bin, e = 2, 1, api.ErrVersion
		}
		if has(3) { // there is such a member
			name, e = 5, api.ErrArg
		}
		if has(2) {
			bin, e = []int{0, 3, -1}[faults%3], api.ErrArg
		}
		if has(1) {
			name, e = []int{0, 101, -5}[faults%3], api.ErrArg
		}
		if has(0) {
			c.Places[1].Epoch, e = 0, api.ErrArg
		}
		if e != api.OK {
			refused(t, c, join(name, bin), e)
		}
		checkWords(t, c, join(name, bin))
	}
}

// X3: Report, written out: of the first one, one between others, and the last one.
func TestReportWrittenOut(t *testing.T) {
	c := base()
	for _, x := range []struct {
		name, bin int
		want      []api.Member
	}{
		{2, 2, mems(2, 2, 5, 2, 9, 1)},
		{2, 1, mems(2, 1, 5, 2, 9, 1)},
		{5, 1, mems(2, 1, 5, 1, 9, 1)},
		{5, 2, mems(2, 1, 5, 2, 9, 1)},
		{9, 2, mems(2, 1, 5, 2, 9, 2)},
		{9, 1, mems(2, 1, 5, 2, 9, 1)},
	} {
		check(t, c, report(x.name, x.bin), con(1, x.want, c.Places...), api.OK)
	}
	for _, m := range c.Members {
		check(t, final(), report(m.Name, 2), final(), api.OK)
		refused(t, final(), report(m.Name, 1), api.ErrVersion)
	}
	for _, n := range []int{0, 1, 3, 4, 6, 8, 10, 100, 101, -2, 258, 1<<32 + 2, math.MaxInt, math.MinInt} {
		for bin := 1; bin <= 2; bin++ {
			refused(t, c, report(n, bin), api.ErrNone)
			refused(t, final(), report(n, bin), api.ErrNone)
		}
	}
	for _, bin := range []int{0, 3, -1, 257, 258, 1<<32 + 1, 1<<32 + 2, math.MaxInt, math.MinInt} {
		refused(t, c, report(2, bin), api.ErrArg)
		refused(t, final(), report(2, bin), api.ErrArg)
	}
}

// X3: Report, all that may be wrong at once, in the order of the words.
func TestReportOrder(t *testing.T) {
	for faults := range 1 << 4 {
		has := func(i int) bool { return faults>>i&1 == 1 }
		c, name, bin := con(1, mems(2, 2, 5, 2), placesOf(run(2, 2, 2), 3, 0)...), 5, 2
		e := api.OK
		if has(3) { // the level 2, and the binary 1
			c.Level, bin, e = 2, 1, api.ErrVersion
		}
		if has(2) { // there is no such member
			name, e = []int{0, 3, 101}[faults%3], api.ErrNone
		}
		if has(1) {
			bin, e = []int{0, 3, -1}[faults%3], api.ErrArg
		}
		if has(0) {
			c.Places[1].Epoch, e = 0, api.ErrArg
		}
		if e != api.OK {
			refused(t, c, report(name, bin), e)
		}
		checkWords(t, c, report(name, bin))
	}
}

// X4: just if all members tell 2, whoever does not; it may be asked again.
func TestFinaliseWrittenOut(t *testing.T) {
	check(t, final(), finalise(), final(), api.OK)
	refused(t, base(), finalise(), api.ErrVersion)
	for _, first := range []int{1, 40, 93} {
		for n := 1; n <= 8; n++ {
			for who := range 1 << n { // those of whom the bit is set run the binary 1
				m := run(first, first+n-1, 2)
				for i := range m {
					m[i].Bin -= who >> i & 1
				}
				c := con(1, m, placesOf(m, 5, 1)...)
				if who > 0 {
					refused(t, c, finalise(), api.ErrVersion)
				} else {
					check(t, c, finalise(), con(2, m, c.Places...), api.OK)
				}
			}
		}
	}
}

// X5: Plan, written out.
func TestPlanWrittenOut(t *testing.T) {
	for _, c := range []api.Control{base(), final()} {
		check(t, c, plan(0, 5), with(c, func(c *api.Control) { c.Places[0].To = 5 }), api.OK)
		check(t, c, plan(0, 9), with(c, func(c *api.Control) { c.Places[0].To = 9 }), api.OK)
		refused(t, c, plan(0, 2), api.ErrArg)
		for to := range 11 {
			if to != 2 && to != 5 && to != 9 {
				refused(t, c, plan(0, to), api.ErrNone)
			}
			for _, shard := range []int{-1, -5, 5, 6, 8, 255, 256, 1 << 32, -1 << 32, math.MaxInt, math.MinInt} {
				refused(t, c, plan(shard, to), api.ErrShard)
			}
		}
		for _, to := range []int{-2, -5, 101, 258, 1<<32 + 5, math.MaxInt, math.MinInt} {
			refused(t, c, plan(0, to), api.ErrNone)
		}
		for _, to := range []int{2, 5, 9} {
			refused(t, c, plan(1, to), api.ErrBusy)
			refused(t, c, plan(3, to), api.ErrBusy)
			refused(t, c, plan(4, to), api.ErrBusy)
		}
		refused(t, c, plan(2, 5), api.ErrArg)
		refused(t, c, plan(2, 2), api.ErrFull)
		refused(t, c, plan(2, 9), api.ErrFull)
	}
}

// X5: the first place, the last one, and those between, of as many as there may be; and the epoch ahead of the last one.
func TestEachPlace(t *testing.T) {
	for n := 1; n <= 8; n++ {
		for shard := -2; shard <= n+1; shard++ {
			c := con(1, run(1, 3, 1), slices.Repeat([]api.Place{{Owner: 2, Epoch: most - 1}}, n)...)
			if shard < 0 || shard >= n {
				refused(t, c, plan(shard, 3), api.ErrShard)
				refused(t, c, commit(shard), api.ErrShard)
				refused(t, c, cancel(shard), api.ErrShard)
				continue
			}
			moving := with(c, func(c *api.Control) { c.Places[shard].To = 3 })
			there := with(c, func(c *api.Control) { c.Places[shard] = api.Place{Owner: 3, Epoch: most} })
			check(t, c, plan(shard, 3), moving, api.OK)
			check(t, moving, cancel(shard), c, api.OK)
			check(t, moving, commit(shard), there, api.OK)
			refused(t, there, plan(shard, 2), api.ErrFull)
			for other := range n {
				if other != shard {
					refused(t, moving, commit(other), api.ErrNone)
					refused(t, moving, cancel(other), api.ErrNone)
				}
			}
		}
	}
}

// X5: Plan, all that may be wrong at once, in the order of the words.
func TestPlanOrder(t *testing.T) {
	for faults := range 1 << 6 {
		has := func(i int) bool { return faults>>i&1 == 1 }
		c, shard, to := con(1, mems(2, 2, 5, 1, 9, 1), placesOf(run(2, 2, 2), 3, 0)...), 1, 5
		c.Places[1] = api.Place{Owner: 2, Epoch: 3}
		e := api.OK
		if has(5) {
			c.Places[1].Epoch, e = most, api.ErrFull
		}
		if has(4) { // to its Owner
			to, e = 2, api.ErrArg
		}
		if has(3) { // it moves already: to the same one, or to another one
			c.Places[1].To, e = []int{5, 9}[faults%2], api.ErrBusy
		}
		if has(2) { // to nobody
			to, e = []int{0, 3, 101}[faults%3], api.ErrNone
		}
		if has(1) {
			shard, e = []int{-1, 3, 1<<32 + 1}[faults%3], api.ErrShard
		}
		if has(0) {
			c.Level, e = 0, api.ErrArg
		}
		if e != api.OK {
			refused(t, c, plan(shard, to), e)
		}
		checkWords(t, c, plan(shard, to))
	}
}

// X5: Commit and Cancel, written out.
func TestCommitWrittenOut(t *testing.T) {
	for _, c := range []api.Control{base(), final()} {
		check(t, c, commit(1), with(c, func(c *api.Control) { c.Places[1] = api.Place{Owner: 5, Epoch: 5} }), api.OK)
		check(t, c, commit(3), with(c, func(c *api.Control) { c.Places[3] = api.Place{Owner: 2, Epoch: most} }), api.OK)
		check(t, c, cancel(1), with(c, func(c *api.Control) { c.Places[1] = api.Place{Owner: 2, Epoch: 4} }), api.OK)
		check(t, c, cancel(3), with(c, func(c *api.Control) { c.Places[3] = api.Place{Owner: 9, Epoch: most - 1} }), api.OK)
		check(t, c, cancel(4), with(c, func(c *api.Control) { c.Places[4] = api.Place{Owner: 5, Epoch: most} }), api.OK)
		refused(t, c, commit(4), api.ErrFull)
		for _, shard := range []int{0, 2} {
			refused(t, c, commit(shard), api.ErrNone)
			refused(t, c, cancel(shard), api.ErrNone)
		}
		for _, shard := range []int{-1, -3, 5, 7, 8, 257, 1<<32 + 1, 1 - 1<<32, math.MaxInt, math.MinInt, math.MinInt + 1} {
			refused(t, c, commit(shard), api.ErrShard)
			refused(t, c, cancel(shard), api.ErrShard)
		}
	}
}

// X5: Commit and Cancel, all that may be wrong at once, in the order of the words.
func TestCommitOrder(t *testing.T) {
	for faults := range 1 << 4 {
		has := func(i int) bool { return faults>>i&1 == 1 }
		c, shard := con(1, mems(2, 2, 5, 1), placesOf(run(2, 2, 2), 3, 0)...), 1
		c.Places[1] = api.Place{Owner: 2, Epoch: 3, To: 5}
		e, f := api.OK, api.OK // of Commit, and of Cancel
		if has(3) {
			c.Places[1].Epoch, e = most, api.ErrFull
		}
		if has(2) {
			c.Places[1].To, e, f = 0, api.ErrNone, api.ErrNone
		}
		if has(1) {
			shard = []int{-1, 3, 1<<32 + 1}[faults%3]
			e, f = api.ErrShard, api.ErrShard
		}
		if has(0) {
			c.Level = 3
			e, f = api.ErrArg, api.ErrArg
		}
		if e != api.OK {
			refused(t, c, commit(shard), e)
		}
		if f != api.OK {
			refused(t, c, cancel(shard), f)
		}
		checkWords(t, c, commit(shard))
		checkWords(t, c, cancel(shard))
	}
}

// calls are all calls at all edges.
func calls() []call {
	l := []call{finalise()}
	for _, n := range numbers() {
		for _, bin := range bins() {
			l = append(l, join(n, bin), report(n, bin))
		}
		l = append(l, commit(n), cancel(n))
		for _, to := range numbers() {
			if n >= -1 && n <= 9 || to >= 4 && to <= 6 {
				l = append(l, plan(n, to))
			}
		}
	}
	return l
}

// X3, X4, X5: all calls of all controllers that are right.
func TestByTheWords(t *testing.T) {
	all := calls()
	for _, c := range rights() {
		for _, x := range all {
			checkWords(t, c, x)
		}
	}
}

// X3: controllers that are not right, each way, for each call, whatever else is wrong.
func TestNotRight(t *testing.T) {
	l := []call{finalise()}
	for _, n := range []int{-1, 0, 1, 2, 3, 4, 5, 9, 101} {
		for _, m := range []int{0, 1, 2, 3, 5, 9} {
			l = append(l, join(n, m), report(n, m), plan(n, m), commit(m), cancel(m))
		}
	}
	for name, c := range wrongs() {
		for _, x := range l {
			if _, e := x.do(c); e != api.ErrArg {
				t.Errorf("%s: %s: %d", name, x.name, e)
			}
			refused(t, c, x, api.ErrArg)
		}
		checkBalance(t, c, 0, 0, false)
	}
}

// X3, X5: what is not named stays: one thing alone is changed.
func TestOthersStay(t *testing.T) {
	for _, c := range rights() {
		for i, m := range c.Members {
			a, e := Report(c, m.Name, 2)
			if e != api.OK || a.Level != c.Level || !slices.Equal(a.Places, c.Places) || !slices.Equal(slices.Delete(copied(a).Members, i, i+1), slices.Delete(copied(c).Members, i, i+1)) {
				t.Errorf("Report(%s, %d, 2) = %s, %d", say(c), m.Name, say(a), e)
			}
		}
		for i := range c.Places {
			for what, x := range map[string]call{"plan": plan(i, c.Members[0].Name), "commit": commit(i), "cancel": cancel(i)} {
				a, _ := x.do(c)
				if a.Level != c.Level || !slices.Equal(a.Members, c.Members) || !slices.Equal(slices.Delete(copied(a).Places, i, i+1), slices.Delete(copied(c).Places, i, i+1)) {
					t.Errorf("%s of %d: %s behind %s", what, i, say(a), say(c))
				}
			}
		}
	}
}

// ofBytes is a controller that bytes tell: it need not be right.
func ofBytes(level int, members, places []byte) api.Control {
	c := api.Control{Level: level}
	for i := 0; i+1 < len(members); i += 2 {
		c.Members = append(c.Members, api.Member{Name: int(members[i]), Bin: int(int8(members[i+1]))})
	}
	for i := 0; i+2 < len(places); i += 3 {
		c.Places = append(c.Places, api.Place{Owner: int(places[i]), Epoch: int(places[i+1]) << (places[i+2] >> 6 * 15), To: int(places[i+2] & 63)})
	}
	return c
}

func FuzzControl(f *testing.F) {
	f.Add(1, []byte{2, 1, 5, 2}, []byte{2, 1, 0, 2, 4, 5, 5, 9, 0}, 0, 5)
	f.Add(2, []byte{1, 2, 3, 2}, []byte{1, 1, 0, 1, 2, 3, 1, 255, 3}, 1, 2)
	f.Add(1, []byte{1, 1, 2, 1, 3, 1, 4, 1, 5, 1, 6, 1, 7, 1, 8, 1}, []byte{8, 1, 0}, 9, 1)
	f.Add(1, []byte{1, 1}, []byte{1, 1, 0, 1, 1, 0, 1, 1, 0}, 2, 1)
	f.Add(0, []byte{}, []byte{}, -1, 0)
	f.Fuzz(func(t *testing.T, level int, members, places []byte, a, b int) {
		c := ofBytes(level, members, places)
		checkRight(t, c, wantRight(c))
		for _, x := range []call{join(a, b), report(a, b), finalise(), plan(a, b), commit(a), cancel(a), report(a, b%3), plan(a%9, b%100), join(a%101, b%3), commit(a % 9), cancel(b % 9)} {
			checkWords(t, c, x)
		}
		shard, to, is := wantBalance(c)
		checkBalance(t, c, shard, to, is)
	})
}
