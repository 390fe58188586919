package control

import (
	"fmt"
	"math"
	"slices"
	"testing"

	"careen/api"
)

const most = 9007199254740992 // 2^53

// con is a controller of places, in few words: its members are told by mems.
func con(level int, m []api.Member, p ...api.Place) api.Control {
	return api.Control{Level: level, Members: m, Places: p}
}

// mems are members: of each one its Name, and its Bin.
func mems(l ...int) []api.Member {
	var m []api.Member
	for i := 0; i < len(l); i += 2 {
		m = append(m, api.Member{Name: l[i], Bin: l[i+1]})
	}
	return m
}

// run are members of all Names from one to another one, all with one Bin.
func run(from, to, bin int) []api.Member {
	var m []api.Member
	for n := from; n <= to; n++ {
		m = append(m, api.Member{Name: n, Bin: bin})
	}
	return m
}

// base is a controller that has some of all: 2 and 5 run the binary 1 and 2; places that move and that do not, and epochs at both ends.
func base() api.Control {
	return con(1, mems(2, 1, 5, 2, 9, 1), api.Place{Owner: 2, Epoch: 1}, api.Place{Owner: 2, Epoch: 4, To: 5}, api.Place{Owner: 5, Epoch: most}, api.Place{Owner: 9, Epoch: most - 1, To: 2}, api.Place{Owner: 5, Epoch: most, To: 9})
}

// final is one of the level 2.
func final() api.Control {
	c := base()
	c.Level = 2
	for i := range c.Members {
		c.Members[i].Bin = 2
	}
	return c
}

// with is a controller that was changed, in new memory.
func with(c api.Control, change func(c *api.Control)) api.Control {
	c = copied(c)
	change(&c)
	return c
}

func copied(c api.Control) api.Control {
	return con(c.Level, slices.Clone(c.Members), slices.Clone(c.Places)...)
}

// numbers are those at all edges, and those that might be taken for others.
func numbers() []int {
	return []int{
		-1, 0, 1, 2, 3, 4, 5, 6, 7, 8, 9, 10, 11, 50, 99, 100, 101, 102, -2, -5, -9, -100, 127, 128, 255, 256, 257, 258, 261, 264, 1 << 16, 1<<16 + 1,
		math.MaxInt32, math.MinInt32, 1 << 32, 1<<32 + 1, 1<<32 + 2, 1<<32 + 5, 1 - 1<<32, 2 - 1<<32, most - 1, most, most + 1, most + 2, -most, 1 << 62, math.MaxInt - 1, math.MaxInt, math.MinInt, math.MinInt + 1, math.MinInt + 2,
	}
}

// bins are numbers that a Bin is, and that might be taken for one.
func bins() []int {
	return []int{0, 1, 2, 3, -1, -2, 257, 258, 1<<32 + 1, 1<<32 + 2, math.MaxInt, math.MinInt + 1}
}

// memberLists are lists of members that may be at the level 1: of few and many, at both ends of the Names, with each Bin.
func memberLists() [][]api.Member {
	var l [][]api.Member
	for _, bin := range []int{1, 2} {
		l = append(l, mems(1, bin), mems(100, bin), mems(7, bin), run(2, 3, bin), run(99, 100, bin), mems(1, bin, 100, bin), run(1, 7, bin), run(2, 8, bin), run(1, 8, bin), run(93, 100, bin))
	}
	l = append(l, mems(2, 1, 5, 2), mems(2, 2, 5, 1), mems(3, 1, 50, 2, 99, 1), mems(3, 2, 50, 1, 99, 2), mems(2, 1, 4, 2, 6, 1, 8, 2, 10, 1, 12, 2, 14, 1, 99, 2))
	for i := range 8 {
		m := run(11, 18, 2)
		m[i].Bin = 1
		l = append(l, m)
	}
	return l
}

// placesOf are so many places of members: which ones, in which epochs, and whether they move, hangs on a number.
func placesOf(m []api.Member, n, k int) []api.Place {
	var l []api.Place
	for i := range n {
		p := api.Place{Owner: m[(i*k+k)%len(m)].Name, Epoch: []int{1, most, 2, most - 1, 77}[(i+k)%5]}
		if to := m[(i+2*k+1)%len(m)].Name; to != p.Owner && (i+k)%3 > 0 {
			p.To = to
		}
		l = append(l, p)
	}
	return l
}

// rights are controllers that may be, at all edges.
func rights() []api.Control {
	var l []api.Control
	for _, m := range memberLists() {
		for level := 1; level <= 2; level++ {
			for _, n := range []int{1, 3, 8} {
				for k := range 2 {
					if c := con(level, m, placesOf(m, n, k)...); wantRight(c) {
						l = append(l, c)
					}
				}
			}
		}
	}
	return append(l, base(), final())
}

// faults are ways in which a controller, of three members and five places at least, is not right.
func faults() map[string]func(c *api.Control) {
	l := map[string]func(c *api.Control){
		"no members":     func(c *api.Control) { c.Members = nil },
		"empty members":  func(c *api.Control) { c.Members = []api.Member{} },
		"first members":  func(c *api.Control) { c.Members = c.Members[1:] }, // a place's is none then
		"last members":   func(c *api.Control) { c.Members = c.Members[:len(c.Members)-1] },
		"a name falls":   func(c *api.Control) { c.Members[0], c.Members[1] = c.Members[1], c.Members[0] },
		"names fall":     func(c *api.Control) { slices.Reverse(c.Members) },
		"a name twice":   func(c *api.Control) { c.Members[1].Name = c.Members[0].Name },
		"the last twice": func(c *api.Control) { c.Members = append(c.Members, c.Members[len(c.Members)-1]) },
		"nine members":   func(c *api.Control) { c.Members = append(c.Members, run(91+len(c.Members), 99, 2)...) },
		"no places":      func(c *api.Control) { c.Places = nil },
		"empty places":   func(c *api.Control) { c.Places = []api.Place{} },
		"nine places":    func(c *api.Control) { c.Places = append(c.Places, slices.Repeat(c.Places[:1], 9-len(c.Places))...) },
		"many places":    func(c *api.Control) { c.Places = slices.Repeat(c.Places[:1], 264) },
		"to its owner":   func(c *api.Control) { c.Places[0].To = c.Places[0].Owner },
		"to the last":    func(c *api.Control) { c.Places[4].To = c.Places[4].Owner },
	}
	for _, n := range []int{0, 3, -1, 257, 1<<32 + 1, math.MaxInt, math.MinInt} {
		l[fmt.Sprint("the level ", n)] = func(c *api.Control) { c.Level = n }
		for i := range 3 {
			l[fmt.Sprint("bin ", i, " is ", n)] = func(c *api.Control) { c.Members[i].Bin = n }
		}
	}
	for _, n := range []int{0, -1, 101, 1<<32 + 2, math.MaxInt, math.MinInt} {
		for i := range 3 {
			l[fmt.Sprint("name ", i, " is ", n)] = func(c *api.Control) { c.Members[i].Name = n }
		}
		for i := range 5 {
			l[fmt.Sprint("owner ", i, " is ", n)] = func(c *api.Control) { c.Places[i].Owner, c.Places[i].To = n, 0 }
			if n != 0 {
				l[fmt.Sprint("to ", i, " is ", n)] = func(c *api.Control) { c.Places[i].To = n }
			}
		}
	}
	for i := range 5 {
		for _, n := range []int{0, -1, -most, most + 1, most + 2, math.MaxInt, math.MinInt} {
			l[fmt.Sprint("epoch ", i, " is ", n)] = func(c *api.Control) { c.Places[i].Epoch = n }
		}
		l[fmt.Sprint("owner ", i, " is none")] = func(c *api.Control) { c.Places[i].Owner = 3 }
		l[fmt.Sprint("to ", i, " is none")] = func(c *api.Control) { c.Places[i].To = 3 }
	}
	return l
}

// wrongs are controllers that are not right, each way, at both levels, by what is wrong.
func wrongs() map[string]api.Control {
	l := map[string]api.Control{"nothing": {}}
	for level, c := range []api.Control{base(), final()} {
		for name, change := range faults() {
			l[fmt.Sprint(level+1, ": ", name)] = with(c, change)
		}
	}
	for i := range 3 {
		l[fmt.Sprint("final, bin ", i, " is 1")] = with(final(), func(c *api.Control) { c.Members[i].Bin = 1 })
	}
	return l
}

// wantRight is promise X1 by its words.
func wantRight(c api.Control) bool {
	if c.Level != 1 && c.Level != 2 || len(c.Members) == 0 || len(c.Members) > 8 || len(c.Places) == 0 || len(c.Places) > 8 {
		return false
	}
	for i, m := range c.Members {
		if m.Name < 1 || m.Name > 100 || i > 0 && c.Members[i-1].Name >= m.Name {
			return false
		}
		if m.Bin != 2 && (m.Bin != 1 || c.Level == 2) {
			return false
		}
	}
	there := binsOf(c)
	for _, p := range c.Places {
		if there[p.Owner] == 0 || p.Epoch < 1 || p.Epoch > most {
			return false
		}
		if p.To != 0 && there[p.To] == 0 || p.To == p.Owner {
			return false
		}
	}
	return true
}

// binsOf is what members' Bins are, by their Names.
func binsOf(c api.Control) map[int]int {
	l := map[int]int{}
	for _, m := range c.Members {
		l[m.Name] = m.Bin
	}
	return l
}

// ofBins is a controller with other members.
func ofBins(c api.Control, l map[int]int) api.Control {
	c = copied(c)
	c.Members = nil
	for n := 1; n <= 100; n++ {
		if bin, is := l[n]; is {
			c.Members = append(c.Members, api.Member{Name: n, Bin: bin})
		}
	}
	return c
}

// wantJoin and wantReport are promise X3 by its words, wantFinalise is X4.
func wantJoin(c api.Control, name, bin int) (api.Control, api.Errno) {
	l := binsOf(c)
	switch {
	case !wantRight(c), name < 1, name > 100, bin != 1 && bin != 2, l[name] != 0:
		return c, 1
	case c.Level == 2 && bin == 1:
		return c, 22
	case len(l) == 8:
		return c, 50
	}
	l[name] = bin
	return ofBins(c, l), 0
}

func wantReport(c api.Control, name, bin int) (api.Control, api.Errno) {
	l := binsOf(c)
	switch {
	case !wantRight(c), bin != 1 && bin != 2:
		return c, 1
	case l[name] == 0:
		return c, 70
	case c.Level == 2 && bin == 1:
		return c, 22
	}
	l[name] = bin
	return ofBins(c, l), 0
}

func wantFinalise(c api.Control) (api.Control, api.Errno) {
	if !wantRight(c) {
		return c, 1
	}
	for _, bin := range binsOf(c) {
		if bin == 1 {
			return c, 22
		}
	}
	c.Level = 2
	return c, 0
}

// wantPlan, wantCommit and wantCancel are promise X5 by its words.
func wantPlan(c api.Control, shard, to int) (api.Control, api.Errno) {
	switch {
	case !wantRight(c):
		return c, 1
	case shard < 0 || shard >= len(c.Places):
		return c, 83
	case binsOf(c)[to] == 0:
		return c, 70
	case c.Places[shard].To != 0:
		return c, 92
	case c.Places[shard].Owner == to:
		return c, 1
	case c.Places[shard].Epoch == most:
		return c, 50
	}
	return with(c, func(c *api.Control) { c.Places[shard].To = to }), 0
}

func wantCommit(c api.Control, shard int) (api.Control, api.Errno) {
	if _, e := wantCancel(c, shard); e != 0 { // X5 names the same errors ahead of ErrFull
		return c, e
	}
	if c.Places[shard].Epoch == most {
		return c, 50
	}
	return with(c, func(c *api.Control) {
		p := &c.Places[shard]
		p.Owner, p.Epoch, p.To = p.To, p.Epoch+1, 0
	}), 0
}

func wantCancel(c api.Control, shard int) (api.Control, api.Errno) {
	switch {
	case !wantRight(c):
		return c, 1
	case shard < 0 || shard >= len(c.Places):
		return c, 83
	case c.Places[shard].To == 0:
		return c, 70
	}
	return with(c, func(c *api.Control) { c.Places[shard].To = 0 }), 0
}

// wantLoads are members' loads by X6's words: all that they have, without what moves away, and with what moves to them.
func wantLoads(c api.Control) map[int]int {
	l := map[int]int{}
	for _, p := range c.Places {
		l[p.Owner]++
	}
	for _, p := range c.Places {
		if p.To != 0 {
			l[p.Owner]--
			l[p.To]++
		}
	}
	return l
}

// wantBalance is promise X6 by its words.
func wantBalance(c api.Control) (int, int, bool) {
	if !wantRight(c) {
		return 0, 0, false
	}
	loads, from, to := wantLoads(c), 0, 0
	for n := 100; n >= 1; n-- { // from the last one on: the first one of several is found last
		if binsOf(c)[n] == 0 {
			continue
		}
		if from == 0 || loads[n] >= loads[from] {
			from = n
		}
		if to == 0 || loads[n] <= loads[to] {
			to = n
		}
	}
	for i, p := range c.Places {
		if p.Owner == from && p.To == 0 && loads[from] > loads[to]+1 {
			return i, to, true
		}
	}
	return 0, 0, false
}

// apart is how far the greatest load is above the least one.
func apart(c api.Control) int {
	var l []int
	for _, m := range c.Members {
		l = append(l, wantLoads(c)[m.Name])
	}
	return slices.Max(l) - slices.Min(l)
}

// same holds a controller against another one.
func same(a, b api.Control) bool {
	return a.Level == b.Level && slices.Equal(a.Members, b.Members) && slices.Equal(a.Places, b.Places)
}

// say is anything in a few words.
func say(x any) string {
	return fmt.Sprintf("%.400s", fmt.Sprint(x))
}

// held is a controller whose lists stand between others, and what tells whether any of these, or of those, was written into.
func held(c api.Control) (api.Control, func() bool) {
	m := slices.Concat(mems(7, 7), c.Members, mems(8, 8, 9, 9))
	p := slices.Concat([]api.Place{{Owner: 7}}, c.Places, make([]api.Place, 2))
	wasM, wasP := slices.Clone(m), slices.Clone(p)
	c.Members, c.Places = m[1:1+len(c.Members)], p[1:1+len(c.Places)]
	return c, func() bool { return !slices.Equal(m, wasM) || !slices.Equal(p, wasP) }
}

// overwrite writes into all of a controller's lists, spare room too, and grows them.
func overwrite(c api.Control) {
	overwriteList(c.Members, api.Member{Name: -7, Bin: -7})
	overwriteList(c.Places, api.Place{Owner: -7, Epoch: -7, To: -7})
}

func overwriteList[T any](l []T, x T) {
	all := l[:cap(l)]
	for i := range all {
		all[i] = x
	}
	_ = append(l, x, x)
}

// call is one that answers a controller, and what it answers by the words.
type call struct {
	name string
	do   func(c api.Control) (api.Control, api.Errno)
	want func(c api.Control) (api.Control, api.Errno)
}

func join(name, bin int) call {
	return call{fmt.Sprint("Join of ", name, ", ", bin), func(c api.Control) (api.Control, api.Errno) { return Join(c, name, bin) }, func(c api.Control) (api.Control, api.Errno) { return wantJoin(c, name, bin) }}
}

func report(name, bin int) call {
	return call{fmt.Sprint("Report of ", name, ", ", bin), func(c api.Control) (api.Control, api.Errno) { return Report(c, name, bin) }, func(c api.Control) (api.Control, api.Errno) { return wantReport(c, name, bin) }}
}

func finalise() call {
	return call{"Finalise", Finalise, wantFinalise}
}

func plan(shard, to int) call {
	return call{fmt.Sprint("Plan of ", shard, ", ", to), func(c api.Control) (api.Control, api.Errno) { return Plan(c, shard, to) }, func(c api.Control) (api.Control, api.Errno) { return wantPlan(c, shard, to) }}
}

func commit(shard int) call {
	return call{fmt.Sprint("Commit of ", shard), func(c api.Control) (api.Control, api.Errno) { return Commit(c, shard) }, func(c api.Control) (api.Control, api.Errno) { return wantCommit(c, shard) }}
}

func cancel(shard int) call {
	return call{fmt.Sprint("Cancel of ", shard), func(c api.Control) (api.Control, api.Errno) { return Cancel(c, shard) }, func(c api.Control) (api.Control, api.Errno) { return wantCancel(c, shard) }}
}

// check asks a call, and holds what it answers: to what is to be; that behind an error all is as it was; that what comes out is right; that what was handed in is not written into, and not kept; and that what comes out is new memory.
func check(t *testing.T, c api.Control, x call, want api.Control, e api.Errno) {
	t.Helper()
	in, written := held(c)
	a, f := x.do(in)
	b, g := x.do(in)
	if !same(a, want) || f != e {
		t.Errorf("%s of %s = %s, %d; want %s, %d", x.name, say(c), say(a), f, say(want), e)
	}
	if !same(a, b) || f != g || written() {
		t.Errorf("%s of %s: asked twice it is %s, %d and %s, %d; was it written into? %v", x.name, say(c), say(a), f, say(b), g, written())
	}
	if e != 0 { // what is as it was may be what was handed in
		return
	}
	if !Right(a) {
		t.Errorf("%s of %s = %s, which is not right", x.name, say(c), say(a))
	}
	if overwrite(a); written() || !same(b, want) {
		t.Errorf("%s of %s gives out what was handed in, or one answer twice", x.name, say(c))
	}
	if overwrite(in); !same(b, want) {
		t.Errorf("%s of %s keeps what was handed in", x.name, say(c))
	}
}

// checkWords holds a call against the words.
func checkWords(t *testing.T, c api.Control, x call) {
	t.Helper()
	want, e := x.want(c)
	check(t, c, x, want, e)
}

// refused holds a call to an error.
func refused(t *testing.T, c api.Control, x call, e api.Errno) {
	t.Helper()
	check(t, c, x, c, e)
}

// next is a number that looks like chance, the same in each run.
func next(seed *uint64) int {
	*seed = *seed*6364136223846793005 + 1442695040888963407
	return int(*seed >> 33)
}
