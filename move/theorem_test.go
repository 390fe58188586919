package move

import (
	"fmt"
	"slices"
	"testing"

	"careen/api"
	"careen/host"
	"careen/journal"
	"careen/reply"
	"careen/shard"
)

// find is the shard 2 of a host; false: it has none.
func find(h api.Host) (api.Shard, bool) {
	for _, s := range host.Shards(h) {
		if s.Id == 2 {
			return s, true
		}
	}
	return api.Shard{}, false
}

// others are a host's shards but the shard 2.
func others(h api.Host) []api.Shard {
	return slices.DeleteFunc(host.Shards(h), func(s api.Shard) bool { return s.Id == 2 })
}

// twice tells whether both hosts have the shard 2 in its greatest epoch.
func twice(from, to api.Host) bool {
	a, inFrom := find(from)
	b, inTo := find(to)
	return inFrom && inTo && a.Epoch == b.Epoch
}

// pairs are hosts that are up: the first ones have that shard, and others; the second ones have no others, some, all, and the shard itself in an older epoch. Their disks have all formats.
func pairs(s api.Shard) [][2]api.Host {
	var l [][2]api.Host
	for v := 1; v <= 2; v++ {
		for w := 1; w <= 2; w++ {
			l = append(l,
				[2]api.Host{old(v, s), fresh(w)},
				[2]api.Host{old(v, some(0), some(1), s, frozen(some(7))), fresh(w, some(1), crowded(3))},
				[2]api.Host{old(v, s, crowded(3)), fresh(w, bare(0), bare(1), in(4, crowded(2)), bare(3), bare(4), bare(5), bare(6), bare(7))},
				[2]api.Host{with(old(v, bare(2)), inLog(v, adopts(v, s)), inLog(v, adopts(v, bare(5)))), with(fresh(w, in(1, some(2))), "", inLog(w, freezes(2)))})
		}
	}
	return l
}

// Q5: a move that is done, of shards of all kinds, between disks of all formats: the shard is there, in the new epoch, thawed, byte for byte; no other shard is changed; never do both have it in its greatest epoch.
func TestDone(t *testing.T) {
	for _, s := range shards() {
		for _, epoch := range []int{6, 7, most} {
			for _, p := range pairs(s) {
				m, from, to := Begin(2, epoch), p[0], p[1]
				n := 0
				for ; m.Stage != api.MoveDone; n++ {
					m, from, to = stepped(t, m, from, to)
					if twice(from, to) || !sameAll(others(from), others(p[0])) || !sameAll(others(to), others(p[1])) {
						t.Fatalf("%s behind %d steps: %s, %s", say(m), n, say(from), say(to))
					}
				}
				want := in(epoch, thawed(s))
				got, there := find(to)
				if _, still := find(from); still || !there || n != len(m.Parts)+3 {
					t.Fatalf("behind %d steps: %s, %s", n, say(from), say(to))
				}
				for v := 1; v <= 2; v++ {
					if encoded(v, got) != encoded(v, want) {
						t.Errorf("%s; want %s", say(got), say(want))
					}
				}
			}
		}
	}
}

// Q5: what was done in the old epoch is done in the new one: who asks the same again is replied the same, and nothing is changed.
func TestRepliesMove(t *testing.T) {
	for _, p := range pairs(some(2)) {
		c := ask(2, 5, 10, 101, "a", "y")
		from, r := host.Ask(p[0], c)
		if r.Errno != api.OK || r.Rev != 2 {
			t.Fatal(r)
		}
		m, to := begun(), p[1]
		for m.Stage != api.MoveDone {
			m, from, to = stepped(t, m, from, to)
		}
		c.Epoch = 6
		if h, again := host.Ask(to, c); h != to || !reply.Same(again, r) {
			t.Errorf("%s; it was %s", say(again), say(r))
		}
		if _, gone := host.Ask(from, c); gone.Errno != api.ErrShard {
			t.Error(gone)
		}
	}
}

// Q5: one that was given up, behind each step at which that may be, leaves the shard as it was, and all others; behind those at which the new one has it it may not be given up.
func TestGivenUp(t *testing.T) {
	for _, s := range shards() {
		if s.Frozen { // Q4's thaw leaves no shard frozen: see TestGivenUpFrozen
			continue
		}
		for _, p := range pairs(s) {
			m, from, to := begun(), p[0], p[1]
			for m.Stage != api.MoveDone {
				n, f, e := checkGive(t, m, from)
				if m.Stage == api.MoveThere {
					gaveNot(t, m, from, api.ErrArg)
				} else if e != api.OK || n.Stage != api.MoveEnded || len(n.Parts) > 0 || !sameAll(host.Shards(f), host.Shards(p[0])) || to != p[1] {
					t.Errorf("%s is given up: %d, %s, %s", say(m), e, say(n), say(f))
				} else if again, _, _, e := checkStep(t, n, f, to); e != api.ErrArg || !sameMove(again, n) {
					t.Errorf("%s goes on: %d, %s", say(n), e, say(again))
				}
				m, from, to = stepped(t, m, from, to)
			}
			gaveNot(t, m, from, api.ErrArg)
		}
	}
}

// Q4: a shard that was frozen ahead of its move is thawed, too, where that is given up, as Q4's words have it.
func TestGivenUpFrozen(t *testing.T) {
	for v := 1; v <= 2; v++ {
		m, from, _ := stepped(t, begun(), old(v, frozen(some(2)), frozen(some(4))), fresh(v))
		_, f, e := checkGive(t, m, from)
		if e != api.OK {
			t.Fatal(e)
		}
		hasShards(t, "given up", f, some(2), frozen(some(4)))
	}
}

// Q5: one that was given up may be begun anew, to the same epoch, and to a later one, and is done then.
func TestBegunAnew(t *testing.T) {
	for _, p := range pairs(some(2)) {
		for behind := range 5 {
			m, from, to := begun(), p[0], p[1]
			for range behind {
				m, from, to = stepped(t, m, from, to)
			}
			m, from, _ = checkGive(t, m, from)
			for m = Begin(2, 6+behind%2); m.Stage != api.MoveDone; {
				m, from, to = stepped(t, m, from, to)
			}
			got, _ := find(to)
			if !shard.Same(got, in(6+behind%2, some(2))) || !sameAll(others(to), others(p[1])) {
				t.Errorf("%s", say(got))
			}
		}
	}
}

// Q5: there and back again, and on, in epoch after epoch, from format to format: nothing is lost.
func TestThereAndBack(t *testing.T) {
	hosts := [2]api.Host{old(1, some(2)), fresh(2)}
	for n := range 12 {
		i := n % 2
		from, to := hosts[i], hosts[1-i]
		m := Begin(2, 6+n)
		for m.Stage != api.MoveDone {
			m, from, to = stepped(t, m, from, to)
		}
		hasShards(t, "it left", from)
		hasShards(t, "it came", to, in(6+n, some(2)))
		if n%5 == 4 {
			to, _ = host.Format(to, 1)
		}
		hosts[i], hosts[1-i] = from, to
	}
}

// Q5: each host's format becomes another one between any two steps, there and back: nothing is lost, and what was told in the format that is no more does not come.
func TestFormats(t *testing.T) {
	for _, p := range pairs(some(2)) {
		for when := range 20 {
			for _, ways := range [][]int{{2}, {1}, {2, 1}, {1, 2}} {
				m, from, to := begun(), p[0], p[1]
				for n := 0; m.Stage != api.MoveDone; n++ {
					if n == when {
						for _, v := range ways {
							from, _ = host.Format(from, 3-v)
							to, _ = host.Format(to, v)
						}
					}
					if m, from, to = stepped(t, m, from, to); twice(from, to) || n > 40 {
						t.Fatalf("%s, %s, %s", say(m), say(from), say(to))
					}
				}
				got, _ := find(to)
				if _, still := find(from); still || !shard.Same(got, in(6, some(2))) || !sameAll(others(from), others(p[0])) || !sameAll(others(to), others(p[1])) {
					t.Errorf("%s, %s", say(from), say(to))
				}
			}
		}
	}
}

// restarted are a host that was stopped, and torn by calls of which each number of bytes is kept, and started again.
func restarted(t *testing.T, h api.Host) []api.Host {
	t.Helper()
	downs := []api.Host{host.Stop(h)}
	for keep := range 60 {
		downs = append(downs, host.Torn(h, ask(2, 5, 30, 1, "a", "z"), keep), host.Torn(h, ask(2, 6, 30, 2, "a", "z"), keep))
	}
	slices.SortFunc(downs, func(a, b api.Host) int { return len(a.Disk.Kept) - len(b.Disk.Kept) })
	var l []api.Host
	for _, d := range slices.Compact(downs) {
		u, e := host.Start(d, 2)
		if e != api.OK {
			t.Fatalf("start: %d", e)
		}
		l = append(l, u)
	}
	return l
}

// Q5: each host is stopped, or torn at each byte, and started again between any two steps: while one of both is not up nothing goes on, and the same that would come without that comes then, but for the torn call, which was done wholly, or not at all.
func TestCrashes(t *testing.T) {
	for _, p := range [][2]api.Host{{old(1, some(2), some(5)), fresh(2, some(1))}, {old(2, bare(2), some(5)), fresh(1, in(4, some(2)))}} {
		given, _ := find(p[0])
		for when := range 12 {
			m, from, to := begun(), p[0], p[1]
			for range when {
				if m.Stage != api.MoveDone {
					m, from, to = stepped(t, m, from, to)
				}
			}
			refused(t, m, host.Stop(from), to, api.ErrDown)
			refused(t, m, from, host.Stop(to), api.ErrDown)
			for _, from := range restarted(t, from) {
				finish(t, p, m, from, to, given)
			}
			for _, to := range restarted(t, to) {
				finish(t, p, m, from, to, given)
			}
		}
	}
}

// finish lets a move go on to its end, and asks that the shard is there then: with all that it had, and, perhaps, a call of the client 30.
func finish(t *testing.T, p [2]api.Host, m api.Move, from, to api.Host, given api.Shard) {
	t.Helper()
	for m.Stage != api.MoveDone {
		n, f, h, e := Step(m, from, to)
		if e != api.OK || twice(f, h) {
			t.Fatalf("%s: %d, %s, %s", say(m), e, say(f), say(h))
		}
		m, from, to = n, f, h
	}
	got, _ := find(to)
	want := in(6, given)
	for _, number := range []int{1, 2} {
		done, _, changed := shard.Ask(2, want, ask(2, 6, 30, number, "a", "z"))
		if shard.Same(got, want) || changed && shard.Same(got, done) {
			want = got
		}
	}
	if _, still := find(from); still || !shard.Same(got, want) || !sameAll(others(from), others(p[0])) || !sameAll(others(to), others(p[1])) {
		t.Errorf("%s, %s; want %s", say(from), say(to), say(want))
	}
}

// world is a move, its hosts, and what one remembers who knows neither disks nor bytes: what the shard is with the old one, and with the new one, while these have it. What was done lasts, whatever happens.
type world struct {
	m         api.Move
	from, to  api.Host
	here, new api.Shard // their Ids are 2, while they are there; -1, if not
}

var gone = api.Shard{Id: -1}

// key is all of a world, by which it is known again. (A history's own numbers are in the disks.)
func (w world) key() string {
	return fmt.Sprintf("%q", fmt.Sprint(w))
}

// check asks that a host has the shard as one remembers it, and the other one as it was.
func (w world) check(t *testing.T, what string) {
	t.Helper()
	for _, x := range []struct {
		h    api.Host
		want api.Shard
		also api.Shard
	}{{w.from, w.here, some(5)}, {w.to, w.new, some(1)}} {
		got, is := find(x.h)
		if is != (x.want.Id == 2) || is && !shard.Same(got, x.want) || !sameAll(others(x.h), []api.Shard{x.also}) {
			t.Fatalf("%s: %s has %s; want %s", what, say(x.h), say(host.Shards(x.h)), say(x.want))
		}
	}
	if twice(w.from, w.to) {
		t.Fatalf("%s: both have it: %s, %s", what, say(w.from), say(w.to))
	}
	if stages := map[int][2]bool{1: {true, false}, 2: {true, false}, 3: {true, true}, 4: {false, true}, 5: {true, false}}; stages[w.m.Stage] != [2]bool{w.here.Id == 2, w.new.Id == 2} {
		t.Fatalf("%s: %s; %s, %s", what, say(w.m), say(w.here), say(w.new))
	}
}

// format is a host's disk's.
func format(h api.Host) int {
	v, _, _ := journal.Load(h.Disk)
	return v
}

// step goes on, and remembers what that is to do.
func (w world) step(t *testing.T) world {
	t.Helper()
	want := api.OK
	if !w.from.Up || !w.to.Up {
		want = api.ErrDown
	} else if w.m.Stage > 3 {
		want = api.ErrArg
	}
	n, f, h, e := Step(w.m, w.from, w.to)
	if e != want || e != api.OK && (!sameMove(n, w.m) || f != w.from || h != w.to) {
		t.Fatalf("Step(%s): %d, %s; want %d", say(w.m), e, say(n), want)
	}
	if e == api.OK {
		w.remember(t, n)
	}
	w.m, w.from, w.to = n, f, h
	w.check(t, "a step")
	return w
}

// remember is what a step is to do, by the stages ahead of it and behind it.
func (w *world) remember(t *testing.T, n api.Move) {
	t.Helper()
	all := w.m.Come >= len(w.m.Parts)
	switch {
	case w.m.Stage == 1 && n.Stage == 2 && n.Come == 0 && n.Version == format(w.to):
		w.here.Frozen = true
	case w.m.Stage == 2 && n.Stage == 2 && !all && n.Come == w.m.Come+1:
	case w.m.Stage == 2 && n.Stage == 2 && all && format(w.to) != w.m.Version && n.Version == format(w.to) && n.Come == 0:
	case w.m.Stage == 2 && n.Stage == 3 && all && format(w.to) == w.m.Version:
		w.new = in(6, thawed(w.here))
	case w.m.Stage == 3 && n.Stage == 4:
		w.here = gone
	default:
		t.Fatalf("from %s to %s", say(w.m), say(n))
	}
}

// give gives up.
func (w world) give(t *testing.T) world {
	t.Helper()
	want := api.OK
	if w.m.Stage > 2 {
		want = api.ErrArg
	} else if w.m.Stage == 2 && !w.from.Up {
		want = api.ErrDown
	}
	n, f, e := Give(w.m, w.from)
	if e != want || e == api.OK && n.Stage != 5 || e != api.OK && (!sameMove(n, w.m) || f != w.from) {
		t.Fatalf("Give(%s): %d, %s; want %d", say(w.m), e, say(n), want)
	}
	if e == api.OK {
		w.here.Frozen = false
	}
	w.m, w.from = n, f
	w.check(t, "given up")
	return w
}

// asked is a host behind a call, and the shard behind it, as one remembers it.
func asked(t *testing.T, h api.Host, s api.Shard, c api.Call) (api.Host, api.Shard) {
	t.Helper()
	next, want, _ := shard.Ask(format(h), s, c)
	if !h.Up {
		next, want = s, api.Reply{Errno: 90}
	} else if s.Id < 0 {
		want = api.Reply{Errno: 83}
	}
	g, r := host.Ask(h, c)
	if !reply.Same(r, want) {
		t.Fatalf("%s is replied %s; want %s", say(c), say(r), say(want))
	}
	if s.Id < 0 {
		return g, s
	}
	return g, next
}

// torn is a host behind a torn call, all of which outlives that, or but some bytes of it, and the shard.
func torn(t *testing.T, h api.Host, s api.Shard, c api.Call, whole bool) (api.Host, api.Shard) {
	t.Helper()
	_, next := asked(t, h, s, c)
	if !whole {
		return host.Torn(h, c, 5), s
	}
	return host.Torn(h, c, 1000), next
}

// deed is what may happen to a world.
type deed struct {
	name string
	do   func(t *testing.T, w world) world
}

// deeds are all that may happen: steps and giving up; each host is stopped, torn, started, its format becomes another one; and clients ask both, in both epochs.
func deeds() []deed {
	l := []deed{{"step", func(t *testing.T, w world) world { return w.step(t) }}, {"give", func(t *testing.T, w world) world { return w.give(t) }}}
	of := func(name string, pick func(w *world) (*api.Host, *api.Shard)) {
		add := func(what string, do func(t *testing.T, h *api.Host, s *api.Shard)) {
			l = append(l, deed{name + what, func(t *testing.T, w world) world {
				h, s := pick(&w)
				do(t, h, s)
				w.check(t, name+what)
				return w
			}})
		}
		add(" stops", func(t *testing.T, h *api.Host, s *api.Shard) { *h = host.Stop(*h) })
		add(" starts", func(t *testing.T, h *api.Host, s *api.Shard) { *h, _ = host.Start(*h, 2) })
		add(" starts with 1", func(t *testing.T, h *api.Host, s *api.Shard) { *h, _ = host.Start(*h, 1) })
		for v := 1; v <= 2; v++ {
			add(fmt.Sprint(" gets the format ", v), func(t *testing.T, h *api.Host, s *api.Shard) { *h, _ = host.Format(*h, v) })
			c := ask(2, 4+v, 30, v, "a", fmt.Sprint("w", v))
			add(fmt.Sprint(" is asked in the epoch ", 4+v), func(t *testing.T, h *api.Host, s *api.Shard) { *h, *s = asked(t, *h, *s, c) })
		}
		c := ask(2, 5, 40, 1, "n", "torn")
		if name == "to" {
			c.Epoch = 6
		}
		add(" is torn", func(t *testing.T, h *api.Host, s *api.Shard) { *h, *s = torn(t, *h, *s, c, false) })
		add(" is torn behind it", func(t *testing.T, h *api.Host, s *api.Shard) { *h, *s = torn(t, *h, *s, c, true) })
	}
	of("from", func(w *world) (*api.Host, *api.Shard) { return &w.from, &w.here })
	of("to", func(w *world) (*api.Host, *api.Shard) { return &w.to, &w.new })
	return l
}

// small is a shard whose bytes are two parts.
func small() api.Shard {
	return api.Shard{Id: 2, Epoch: 5, Table: []api.Record{{Key: "a", Value: long(90), Rev: 1, Life: 3, Note: "n", Extra: []api.Field{{Tag: 9, Data: "\xff"}}}}, Cache: []api.Done{last(10, 100)}}
}

// atFirst is a world of a move that is begun.
func atFirst(v, w int, s api.Shard) world {
	return world{m: begun(), from: old(v, s, some(5)), to: fresh(w, some(1)), here: s, new: gone}
}

// ends lets a move go on while nothing fails any more: it is done, in few steps, or it was given up.
func (w world) ends(t *testing.T) {
	t.Helper()
	w.from, _ = host.Start(w.from, 2)
	w.to, _ = host.Start(w.to, 2)
	for n := 0; w.m.Stage < 4; n++ { // parts that are told twice are at most 80: more than 4000 bytes are not adopted
		if w = w.step(t); n > 90 {
			t.Fatalf("behind %d steps: %s", n, say(w.m))
		}
	}
}

// Q5: all short ways: whatever happens, one behind the other, both hosts have what one remembers; from wherever one comes to, the move ends.
func TestShortWays(t *testing.T) {
	all := deeds()
	seen := map[string]bool{}
	stages := map[int]int{}
	at := []world{atFirst(1, 1, small()), atFirst(1, 2, small()), atFirst(2, 1, bare(2))}
	for depth := range 6 {
		var then []world
		for _, w := range at {
			for _, d := range all {
				n := d.do(t, w)
				if k := n.key(); !seen[k] {
					seen[k] = true
					stages[n.m.Stage]++
					if then = append(then, n); depth%2 == 1 {
						n.ends(t)
					}
				}
			}
		}
		at = then
	}
	for stage := 1; stage <= 5; stage++ {
		if stages[stage] < 50 {
			t.Errorf("the stage %d was come to %d times", stage, stages[stage])
		}
	}
}

// Q5: long ways, mostly steps, of moves one behind the other: where one is done, or given up, the next one begins, from the one that has the shard.
func TestLongWays(t *testing.T) {
	all := deeds()
	stages := map[int]int{}
	for seed := range uint64(60) {
		x := seed
		w := atFirst(next(&x)%2+1, next(&x)%2+1, []api.Shard{small(), some(2), bare(2), crowded(2)}[seed%4])
		for range 120 {
			d := all[next(&x)%len(all)]
			if next(&x)%3 == 0 {
				d = all[0]
			}
			w = d.do(t, w)
			if stages[w.m.Stage]++; w.m.Stage == 5 {
				w.m = Begin(2, 6)
			}
		}
		w.ends(t)
	}
	for stage := 1; stage <= 5; stage++ {
		if stages[stage] < 20 {
			t.Errorf("the stage %d was come to %d times", stage, stages[stage])
		}
	}
}
