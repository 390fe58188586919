package control

import (
	"slices"
	"testing"

	"careen/api"
)

// checkBalance holds Balance to an answer, and asks that it writes into nothing.
func checkBalance(t *testing.T, c api.Control, shard, to int, is bool) {
	t.Helper()
	in, written := held(c)
	for range 2 {
		s, m, ok := Balance(in)
		if s != shard || m != to || ok != is || written() {
			t.Errorf("Balance(%s) = %d, %d, %v; want %d, %d, %v; was it written into? %v", say(c), s, m, ok, shard, to, is, written())
		}
	}
}

// whose are places of Owners, and of those to whom they move.
func whose(l ...[2]int) []api.Place {
	var p []api.Place
	for i, x := range l {
		p = append(p, api.Place{Owner: x[0], Epoch: i + 1, To: x[1]})
	}
	return p
}

// stays are places that do not move.
func stays(owners ...int) []api.Place {
	var l [][2]int
	for _, n := range owners {
		l = append(l, [2]int{n, 0})
	}
	return whose(l...)
}

// X6: loads of places that do not move, the same, one, two and more apart.
func TestBalanceStays(t *testing.T) {
	for _, x := range []struct {
		members []api.Member
		owners  []int
		shard   int
		to      int
		is      bool
	}{
		{mems(7, 1), []int{7}, 0, 0, false},
		{mems(7, 1), []int{7, 7, 7, 7, 7, 7, 7, 7}, 0, 0, false},
		{mems(3, 1, 7, 1), []int{3}, 0, 0, false},
		{mems(3, 1, 7, 1), []int{3, 7}, 0, 0, false},
		{mems(3, 1, 7, 1), []int{3, 7, 7}, 0, 0, false},
		{mems(3, 1, 7, 1), []int{3, 3}, 0, 7, true},
		{mems(3, 1, 7, 1), []int{7, 7}, 0, 3, true},
		{mems(3, 1, 7, 1), []int{3, 7, 7, 7}, 1, 3, true},
		{mems(3, 1, 7, 1), []int{3, 3, 7, 7, 7}, 0, 0, false},
		{mems(3, 1, 7, 1), []int{3, 3, 3, 3, 3, 3, 3, 3}, 0, 7, true},
		{mems(3, 1, 7, 1), []int{3, 7, 3, 7, 7, 7, 7, 7}, 1, 3, true},
		{mems(3, 1, 7, 2, 8, 1), []int{3, 7, 8}, 0, 0, false},
		{mems(3, 1, 7, 2, 8, 1), []int{3, 7, 7}, 1, 8, true},
		{mems(3, 1, 7, 2, 8, 1), []int{8, 8, 7, 7}, 2, 3, true},       // 7 and 8 are most loaded
		{mems(3, 1, 7, 2, 8, 1), []int{8, 3, 8, 3}, 1, 7, true},       // 3 and 8 are
		{mems(3, 1, 7, 2, 8, 1), []int{8, 8}, 0, 3, true},             // 3 and 7 are least loaded
		{mems(3, 1, 7, 2, 8, 1), []int{7, 7}, 0, 3, true},             // 3 and 8 are
		{mems(3, 1, 7, 2, 8, 1), []int{3, 3}, 0, 7, true},             // 7 and 8 are
		{mems(3, 1, 7, 2, 8, 1), []int{3, 7, 7, 7, 8}, 1, 3, true},    // 3 and 8 have one each
		{mems(3, 1, 7, 2, 8, 1), []int{8, 7, 8, 3, 8, 3}, 0, 7, true}, // 3, 2 and 1
		{run(1, 8, 1), []int{1, 2, 3, 4, 5, 6, 7, 8}, 0, 0, false},
		{run(1, 8, 1), []int{2, 3, 4, 5, 6, 7, 8}, 0, 0, false},
		{run(1, 8, 1), []int{2, 3, 4, 5, 6, 7, 8, 8}, 6, 1, true},
		{run(93, 100, 2), []int{100, 99, 98, 97, 96, 95, 94, 94}, 6, 93, true},
		{run(93, 100, 2), []int{93, 93, 94, 95, 96, 97, 98, 99}, 0, 100, true},
	} {
		for level := 1; level <= 2; level++ {
			m := slices.Clone(x.members)
			for i := range m {
				m[i].Bin = max(m[i].Bin, level)
			}
			checkBalance(t, con(level, m, stays(x.owners...)...), x.shard, x.to, x.is)
		}
	}
}

// X6: places that move count where they move to, and are not moved again.
func TestBalanceMoves(t *testing.T) {
	m := mems(3, 1, 7, 2, 8, 1)
	for _, x := range []struct {
		l     [][2]int
		shard int
		to    int
		is    bool
	}{
		{[][2]int{{3, 7}, {3, 0}, {3, 0}}, 1, 8, true},
		{[][2]int{{3, 0}, {3, 7}, {3, 0}}, 0, 8, true},
		{[][2]int{{3, 7}, {3, 8}, {3, 0}}, 0, 0, false},
		{[][2]int{{3, 7}, {3, 0}}, 0, 0, false},
		{[][2]int{{3, 7}, {3, 7}}, 0, 0, false},                         // 7 is most loaded, and both move to it
		{[][2]int{{3, 7}, {3, 7}, {7, 0}}, 2, 3, true},                  // its own one may go
		{[][2]int{{3, 7}, {7, 0}, {3, 7}, {7, 0}}, 1, 3, true},          // the first one of its own
		{[][2]int{{7, 3}, {3, 0}, {8, 3}, {3, 0}}, 1, 7, true},          // who gave all away is least loaded
		{[][2]int{{7, 3}, {3, 8}, {8, 3}, {7, 3}}, 0, 0, false},         // all of them move
		{[][2]int{{7, 3}, {3, 8}, {8, 3}, {7, 3}, {3, 0}}, 4, 7, true},  // all of the others do
		{[][2]int{{3, 8}, {3, 8}, {3, 8}, {3, 0}}, 0, 0, false},         // 8 is most loaded, and has none
		{[][2]int{{3, 8}, {3, 8}, {8, 7}, {3, 0}}, 0, 0, false},         // 2, 1 and 1
		{[][2]int{{8, 3}, {8, 7}, {8, 0}, {8, 0}, {8, 0}}, 2, 3, true},  // 1, 1 and 3
		{[][2]int{{7, 8}, {8, 7}, {7, 8}, {8, 7}}, 0, 0, false},         // 7 and 8 are most loaded: of the first one all move
		{[][2]int{{8, 7}, {8, 7}, {8, 0}, {8, 0}}, 0, 0, false},         // as here, where the other one has some
		{[][2]int{{7, 8}, {7, 8}, {7, 0}, {7, 0}}, 2, 3, true},          // but not here
		{[][2]int{{3, 0}, {7, 8}, {8, 7}, {3, 7}, {7, 8}}, 0, 0, false}, // 1, 2 and 2
	} {
		c := con(1, m, whose(x.l...)...)
		checkBalance(t, c, x.shard, x.to, x.is)
		slices.Reverse(c.Places)
		s, to, is := wantBalance(c)
		checkBalance(t, c, s, to, is)
	}
}

// X6: of a place whose epoch is the last one Balance tells as of any other; Plan refuses it.
func TestBalanceLastEpoch(t *testing.T) {
	c := con(1, mems(3, 1, 7, 1), api.Place{Owner: 7, Epoch: most}, api.Place{Owner: 7, Epoch: 1}, api.Place{Owner: 7, Epoch: most})
	checkBalance(t, c, 0, 3, true)
	refused(t, c, plan(0, 3), api.ErrFull)
}

// X6: controllers that are not right, though all else of them asks for a move.
func TestBalanceNotRight(t *testing.T) {
	c := con(1, mems(2, 1, 5, 1, 9, 1), stays(2, 2, 2, 2, 9)...)
	checkBalance(t, c, 0, 5, true)
	for _, change := range faults() {
		checkBalance(t, with(c, change), 0, 0, false)
	}
	checkBalance(t, with(c, func(c *api.Control) { c.Level = 2 }), 0, 0, false)
	checkBalance(t, api.Control{}, 0, 0, false)
}

// eachPlaces tells all ways in which so many places may be owned and moved, of the members 3, 7, 8 and 9.
func eachPlaces(members, places int, yield func(c api.Control)) {
	names := []int{3, 7, 8, 9}[:members]
	m := mems(3, 1, 7, 2, 8, 1, 9, 2)[:members]
	l := make([]api.Place, places)
	var from func(i int)
	from = func(i int) {
		if i == places {
			yield(con(1, m, l...))
			return
		}
		for _, owner := range names {
			for _, to := range append([]int{0}, names...) {
				if to != owner {
					l[i] = api.Place{Owner: owner, Epoch: i + 1, To: to}
					from(i + 1)
				}
			}
		}
	}
	from(0)
}

// X6: all ways of few places, and of few members.
func TestBalanceByTheWords(t *testing.T) {
	found := 0
	for _, x := range [][2]int{{1, 1}, {1, 8}, {2, 1}, {2, 4}, {2, 7}, {3, 1}, {3, 2}, {3, 3}, {3, 4}, {3, 5}, {4, 1}, {4, 2}, {4, 3}} {
		eachPlaces(x[0], x[1], func(c api.Control) {
			shard, to, is := wantBalance(c)
			if s, m, ok := Balance(c); s != shard || m != to || ok != is {
				t.Errorf("Balance(%s) = %d, %d, %v; want %d, %d, %v", say(c), s, m, ok, shard, to, is)
			}
			if is {
				found++
			}
		})
	}
	if found < 10000 {
		t.Error(found, "moves alone")
	}
}

// many are controllers of many members and places, of which most are owned by few.
func many(seed uint64) api.Control {
	m := memberLists()[next(&seed)%len(memberLists())]
	c := con(1, m)
	some := next(&seed)%len(m) + 1
	for range next(&seed)%8 + 1 {
		p := api.Place{Owner: m[next(&seed)%some].Name, Epoch: next(&seed)%9 + 1}
		if to := m[next(&seed)%len(m)].Name; next(&seed)%3 == 0 && to != p.Owner {
			p.To = to
		}
		c.Places = append(c.Places, p)
	}
	return c
}

// X6: many members, and many places.
func TestBalanceMany(t *testing.T) {
	for seed := range uint64(20000) {
		c := many(seed)
		shard, to, is := wantBalance(c)
		checkBalance(t, c, shard, to, is)
	}
	for _, c := range rights() {
		shard, to, is := wantBalance(c)
		checkBalance(t, c, shard, to, is)
	}
}
