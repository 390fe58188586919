package control

import (
	"slices"
	"testing"

	"careen/api"
)

// memory is what one remembers who saw what was done, and what was answered, alone: who runs what, and who has which shard.
type memory struct {
	final   bool
	bins    [101]int // 0: no member
	owner   []int
	to      []int
	commits []int
}

// begun is a controller of New, and what one remembers of it.
func begun(shards, host, bin int) (api.Control, memory) {
	m := memory{owner: slices.Repeat([]int{host}, shards), to: make([]int, shards), commits: make([]int, shards)}
	m.bins[host] = bin
	return New(shards, host, bin), m
}

// fork is a memory that may go another way.
func (m memory) fork() memory {
	m.owner, m.to, m.commits = slices.Clone(m.owner), slices.Clone(m.to), slices.Clone(m.commits)
	return m
}

// old tells whether somebody runs the binary 1.
func (m *memory) old() bool {
	return slices.Contains(m.bins[:], 1)
}

// count is how many members there are.
func (m *memory) count() int {
	n := 0
	for _, bin := range m.bins {
		if bin != 0 {
			n++
		}
	}
	return n
}

// is tells whether a controller is what one remembers.
func (m *memory) is(c api.Control) bool {
	if c.Level == 2 != m.final || len(c.Places) != len(m.owner) || len(c.Members) != m.count() {
		return false
	}
	for _, x := range c.Members {
		if m.bins[x.Name] != x.Bin {
			return false
		}
	}
	for i, p := range c.Places {
		if p != (api.Place{Owner: m.owner[i], Epoch: 1 + m.commits[i], To: m.to[i]}) {
			return false
		}
	}
	return true
}

// deed is something that is done: a call's letter, and its numbers. b is balance, which plans what it is told.
type deed struct {
	kind byte
	x, y int
}

// may tells whether one who remembers takes a deed for one that may be done.
func (m *memory) may(d deed) bool {
	place := d.x >= 0 && d.x < len(m.owner)
	member := func(n int) bool { return n >= 1 && n <= 100 && m.bins[n] != 0 }
	bin := d.y == 2 || d.y == 1 && !m.final
	switch d.kind {
	case 'j':
		return d.x >= 1 && d.x <= 100 && !member(d.x) && bin && m.count() < 8
	case 'r':
		return member(d.x) && bin
	case 'f':
		return !m.old()
	case 'p':
		return place && member(d.y) && m.to[d.x] == 0 && m.owner[d.x] != d.y
	}
	return place && m.to[d.x] != 0
}

// do remembers a deed that was done.
func (m *memory) do(d deed) {
	switch d.kind {
	case 'j', 'r':
		m.bins[d.x] = d.y
	case 'f':
		m.final = true
	case 'p':
		m.to[d.x] = d.y
	case 'c':
		m.owner[d.x], m.to[d.x] = m.to[d.x], 0
		m.commits[d.x]++
	case 'a':
		m.to[d.x] = 0
	}
}

// done is a controller behind a deed.
func done(c api.Control, d deed) (api.Control, api.Errno) {
	switch d.kind {
	case 'j':
		return Join(c, d.x, d.y)
	case 'r':
		return Report(c, d.x, d.y)
	case 'f':
		return Finalise(c)
	case 'p':
		return Plan(c, d.x, d.y)
	case 'c':
		return Commit(c, d.x)
	}
	return Cancel(c, d.x)
}

// checkDeed does a deed, and holds the controller behind it against what one remembers.
func checkDeed(t *testing.T, c api.Control, m *memory, d deed) api.Control {
	t.Helper()
	if d.kind == 'b' {
		shard, to, is := Balance(c)
		if !is {
			return c
		}
		d = deed{'p', shard, to}
		if !m.may(d) {
			t.Fatalf("Balance of %s: %d, %d, which may not be planned", say(c), shard, to)
		}
	}
	n, e := done(c, d)
	may := m.may(d)
	if may {
		m.do(d)
	}
	if may != (e == api.OK) || !m.is(n) || !Right(n) {
		t.Fatalf("%c %d %d of %s = %s, %d; may it be? %v", d.kind, d.x, d.y, say(c), say(n), e, may)
	}
	checkRise(t, c, n, d, e)
	return n
}

// checkRise holds what rises to what it was: the level, and the epochs, by one for each commit, with which alone an owner changes.
func checkRise(t *testing.T, c, n api.Control, d deed, e api.Errno) {
	t.Helper()
	if n.Level < c.Level || n.Level > c.Level && d.kind != 'f' {
		t.Fatalf("%c %d %d: the level %d behind %d", d.kind, d.x, d.y, n.Level, c.Level)
	}
	for i, p := range n.Places {
		was := c.Places[i]
		committed := d.kind == 'c' && d.x == i && e == api.OK
		if committed && (p.Epoch != was.Epoch+1 || p.Owner != was.To) || !committed && (p.Epoch != was.Epoch || p.Owner != was.Owner) {
			t.Fatalf("%c %d %d: %v behind %v", d.kind, d.x, d.y, p, was)
		}
	}
	for _, m := range n.Members {
		if n.Level == 2 && m.Bin != 2 {
			t.Fatalf("%c %d %d: %v, when it is final", d.kind, d.x, d.y, m)
		}
	}
}

// X7: all short ways.
func TestAllWays(t *testing.T) {
	deeds := []deed{{'j', 1, 1}, {'j', 3, 2}, {'r', 2, 1}, {'r', 2, 2}, {'r', 1, 2}, {'f', 0, 0}, {'p', 0, 1}, {'p', 0, 3}, {'p', 1, 2}, {'p', 1, 1}, {'c', 0, 0}, {'c', 1, 0}, {'a', 0, 0}, {'b', 0, 0}}
	ends := 0
	var from func(c api.Control, m memory, steps int)
	from = func(c api.Control, m memory, steps int) {
		if ends++; steps == 0 {
			return
		}
		for _, d := range deeds {
			next := m.fork()
			from(checkDeed(t, c, &next, d), next, steps-1)
		}
	}
	for bin := 1; bin <= 2; bin++ {
		c, m := begun(2, 2, bin)
		from(c, m, 4)
		c = checkDeed(t, c, &m, deed{'j', 1, 2})
		c = checkDeed(t, c, &m, deed{'p', 0, 1})
		from(c, m, 4)
	}
	if ends < 100000 {
		t.Error(ends, "ways alone")
	}
}

// someDeed is a deed that looks like chance: most of them may be done at times.
func someDeed(c api.Control, seed *uint64) deed {
	member := func() int {
		if next(seed)%8 == 0 {
			return next(seed)%104 - 2
		}
		return c.Members[next(seed)%len(c.Members)].Name
	}
	place := next(seed)%(len(c.Places)+1) - next(seed)%8/7
	switch k := next(seed) % 40; {
	case k < 3:
		return deed{'j', next(seed)%104 - 2, next(seed) % 4}
	case k < 13:
		return deed{'r', member(), max(next(seed)%3, next(seed)%4)}
	case k < 14:
		return deed{'f', 0, 0}
	case k < 22:
		return deed{'p', place, member()}
	case k < 32:
		return deed{'c', place, 0}
	case k < 35:
		return deed{'a', place, 0}
	}
	return deed{'b', 0, 0}
}

// X7: long ways, from each number of shards on.
func TestLongWays(t *testing.T) {
	finals, full, commits := 0, 0, 0
	for seed := range uint64(400) {
		x := seed
		c, m := begun(int(seed%8)+1, next(&x)%100+1, int(seed/8%2)+1)
		for range 400 {
			c = checkDeed(t, c, &m, someDeed(c, &x))
		}
		if m.final {
			finals++
		}
		if m.count() == 8 {
			full++
		}
		for _, n := range m.commits {
			commits += n
		}
	}
	if finals < 20 || finals > 390 || full < 100 || commits < 10000 {
		t.Error("finals, full ones, commits:", finals, full, commits)
	}
}

// X7: the gate: it is granted just if all members tell 2; then nobody tells 1 any more, nor joins with 1.
func TestGate(t *testing.T) {
	for n := 1; n <= 8; n++ {
		c, m := begun(3, 10, 1)
		for i := 1; i < n; i++ {
			c = checkDeed(t, c, &m, deed{'j', 10 + 5*i, 1 + i%2})
		}
		for i := range n { // one by one
			if c = checkDeed(t, c, &m, deed{'f', 0, 0}); c.Level == 2 {
				t.Fatalf("granted: %s", say(c))
			}
			c = checkDeed(t, c, &m, deed{'r', 10 + 5*i, 2})
			if n > 2 && i == n/2 { // one goes back, and comes again
				c = checkDeed(t, c, &m, deed{'r', 10, 1})
				c = checkDeed(t, c, &m, deed{'f', 0, 0})
				c = checkDeed(t, c, &m, deed{'r', 10, 2})
			}
			if !m.old() {
				break
			}
		}
		if c = checkDeed(t, c, &m, deed{'f', 0, 0}); c.Level != 2 {
			t.Fatalf("not granted: %s", say(c))
		}
		for name := range 103 {
			refusedAlways(t, c, name)
		}
	}
}

// refusedAlways asks that who would run the binary 1 is refused.
func refusedAlways(t *testing.T, c api.Control, name int) {
	t.Helper()
	if n, e := Join(c, name, 1); e == api.OK || !same(n, c) {
		t.Errorf("Join(%s, %d, 1): %d", say(c), name, e)
	}
	if n, e := Report(c, name, 1); e == api.OK || !same(n, c) {
		t.Errorf("Report(%s, %d, 1): %d", say(c), name, e)
	}
}

// X7: each shard that is committed to and fro has an owner and an epoch that nobody else ever had.
func TestOneOwner(t *testing.T) {
	for seed := range uint64(50) {
		x := seed
		c := New(8, 50, 1)
		for _, n := range []int{1, 2, 99, 100} {
			c, _ = Join(c, n, 1)
		}
		had := map[[2]int]int{} // by the shard and the epoch
		for range 300 {
			for i, p := range c.Places {
				if n, is := had[[2]int{i, p.Epoch}]; is && n != p.Owner {
					t.Fatalf("shard %d, epoch %d: %d, and %d", i, p.Epoch, n, p.Owner)
				}
				had[[2]int{i, p.Epoch}] = p.Owner
			}
			c, _ = done(c, someDeed(c, &x))
		}
	}
}

// even plans what Balance tells, and commits, again and again: at once, or when no more is told, from the last one on, or in any order. Places that move at the beginning are committed when no more is told.
func even(t *testing.T, c api.Control, how uint64) api.Control {
	t.Helper()
	begin, x := c, how
	for range 100 {
		shard, to, is := Balance(c)
		if is {
			was := c.Places[shard]
			n, e := Plan(c, shard, to)
			if e != api.OK || was.To != 0 || wantLoads(c)[was.Owner] < wantLoads(c)[to]+2 {
				t.Fatalf("Balance of %s: %d, %d: %d", say(c), shard, to, e)
			}
			if c = n; how > 0 {
				continue
			}
		} else if shard = moving(c, &x); shard < 0 {
			return c
		}
		n, e := Commit(c, shard)
		if e != api.OK {
			t.Fatalf("Commit of %d, of %s: %d", shard, say(c), e)
		}
		c = n
	}
	t.Fatalf("it does not end: %s", say(begin))
	return c
}

// moving is one of the places that move, or below 0.
func moving(c api.Control, x *uint64) int {
	var l []int
	for i, p := range c.Places {
		if p.To != 0 {
			l = append(l, i)
		}
	}
	if len(l) == 0 {
		return -1
	}
	return l[next(x)%len(l)]
}

// X7: from all ways of few places on, some of which move, loads come to be at most one apart.
func TestLoadsComeClose(t *testing.T) {
	for _, x := range [][2]int{{1, 3}, {2, 1}, {2, 2}, {2, 5}, {2, 7}, {3, 1}, {3, 3}, {3, 4}, {4, 1}, {4, 3}} {
		eachPlaces(x[0], x[1], func(c api.Control) {
			for how := range uint64(3) {
				if n := even(t, c, how); apart(n) > 1 || !Right(n) {
					t.Errorf("%s, from %s on", say(n), say(c))
				}
			}
		})
	}
}

// X7: from many places, of many members, on; and again, when others joined.
func TestManyLoadsComeClose(t *testing.T) {
	far := 0
	for seed := range uint64(5000) {
		c := many(seed)
		if apart(c) > 1 {
			far++
		}
		c = even(t, c, seed%5)
		for n := range 8 {
			if apart(c) > 1 || !Right(c) {
				t.Errorf("seed %d: %s", seed, say(c))
			}
			joined, e := Join(c, 3*n+1, 2)
			if e == api.OK {
				c = even(t, joined, seed%3)
			}
		}
	}
	if far < 1000 {
		t.Error(far, "that were far apart alone")
	}
}

// X6, X7: no more is moved than is needed.
func TestFewMoves(t *testing.T) {
	for shards := 1; shards <= 8; shards++ {
		for hosts := 1; hosts <= 8; hosts++ {
			c := New(shards, 1, 1)
			for n := 2; n <= hosts; n++ {
				c, _ = Join(c, n, 1)
			}
			c = even(t, c, 0)
			moved := 0
			for _, p := range c.Places {
				moved += p.Epoch - 1
			}
			if stay := (shards + hosts - 1) / hosts; moved != shards-stay || apart(c) > 1 {
				t.Errorf("%d shards, %d hosts: %d moved, %s", shards, hosts, moved, say(c))
			}
		}
	}
}
