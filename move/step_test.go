package move

import (
	"fmt"
	"math"
	"slices"
	"strings"
	"testing"

	"careen/api"
	"careen/host"
)

// Q3: the chapter's example, byte for byte: a shard of no keys, in four steps.
func TestExample(t *testing.T) {
	from := old(1, bare(2))
	to := fresh(1)
	m := Begin(2, 6)
	frozenHost := with(from, "a\x04\x00\x01\x02\xda\x6e\x07\x1a", "")
	parts := []string{"s\x02\x06\x00\x00\x00"}
	for i, x := range []struct {
		m        api.Move
		from, to api.Host
	}{
		{api.Move{Shard: 2, Epoch: 6, Stage: 2, Version: 1, Parts: parts}, frozenHost, to},
		{api.Move{Shard: 2, Epoch: 6, Stage: 2, Version: 1, Parts: parts, Come: 1}, frozenHost, to},
		{api.Move{Shard: 2, Epoch: 6, Stage: 3, Version: 1, Parts: parts, Come: 1}, frozenHost, with(to, inLog(1, adopts(1, in(6, bare(2)))), "")},
		{api.Move{Shard: 2, Epoch: 6, Stage: 4, Version: 1, Parts: parts, Come: 1}, with(from, frozenHost.Disk.Kept+inLog(1, drops(2)), ""), with(to, inLog(1, adopts(1, in(6, bare(2)))), "")},
	} {
		var f, h api.Host
		if m, f, h = stepped(t, m, from, to); !sameMove(m, x.m) || f != x.from || h != x.to {
			t.Fatalf("step %d: %s, %s, %s; want %s", i, say(m), say(f), say(h), say(x))
		}
		from, to = f, h
	}
	refused(t, m, from, to, api.ErrArg)
}

// Q3: the version of a move is that of the format of the new one's disk, whatever the old one's is, and both binaries are.
func TestVersionOfMove(t *testing.T) {
	letters := map[int]string{1: "s", 2: "t"}
	for v := 1; v <= 2; v++ {
		for w := 1; w <= 2; w++ {
			for bin := 0; bin <= 3; bin++ {
				from, to := old(v, bare(1), some(2)), fresh(w)
				from.Bin, to.Bin = bin, 3-bin
				m, f, h := stepped(t, begun(), from, to)
				if m.Version != w || Join(m.Parts)[:1] != letters[w] || Join(m.Parts) != encoded(w, in(6, some(2))) || m.Come != 0 || m.Stage != 2 {
					t.Errorf("formats %d and %d: %s", v, w, say(m))
				}
				if f.Disk.Kept != inLog(v, freezes(2)) || h != to {
					t.Errorf("formats %d and %d: %s, %s", v, w, say(f), say(h))
				}
			}
		}
	}
	m, _, _ := stepped(t, begun(), old(2, some(2)), api.Host{Up: true}) // an empty Base is the format 1
	if m.Version != 1 {
		t.Error(m)
	}
}

// shards are some of all kinds, of the Id 2, in the epoch 5.
func shards() []api.Shard {
	return []api.Shard{bare(2), some(2), crowded(2), frozen(bare(2)), frozen(some(2)), sized(1, 2, 99*40), sized(2, 2, 100*30), sized(1, 2, 1000), sized(2, 2, 1001)}
}

// hostsOf are hosts, of each format, on which a shard stands by all ways: on the Base, in the log, in what pends, behind a torn end; alone, and among others.
func hostsOf(h api.Host, s api.Shard) []api.Host {
	var l []api.Host
	for v := 1; v <= 2; v++ {
		of := func(kept, pend string, base ...api.Shard) {
			x := with(h, kept, pend)
			x.Disk.Base = baseOf(v, base...)
			l = append(l, x)
		}
		adopted := inLog(v, adopts(v, s))
		of("", "", s)
		of("", "", some(0), s, bare(7))
		of(adopted, "", some(0), some(7))
		of("", adopted)
		of(inLog(v, adopts(v, in(3, bare(s.Id)))), adopted+inLog(v, freezes(7)), bare(7))
		of("", inLog(v, freezes(7))[:5], s, bare(7))
	}
	return l
}

// Q3: at MoveBegun: shards of all kinds, wherever they stand, to hosts that have them and that do not: what is told, that the old one is frozen, that nothing else is changed.
func TestBegun(t *testing.T) {
	for _, s := range shards() {
		for _, from := range hostsOf(old(1), s) {
			for _, to := range []api.Host{fresh(1), fresh(2), fresh(1, some(0), bare(2)), with(fresh(2, in(9, some(2))), "", inLog(2, freezes(2)))} {
				v := int(to.Disk.Base[0] - '0')
				m, f, h := stepped(t, begun(), from, to)
				if !sameMove(m, onItsWay(v, 0, s)) || h != to {
					t.Errorf("%s: %s, %s", say(s), say(m), say(h))
				}
				want := host.Shards(from)
				for i := range want {
					want[i].Frozen = want[i].Frozen || want[i].Id == 2
				}
				if !tornEnd(from) {
					hasShards(t, "begun", f, want...)
				}
				if f.Disk != synced(from.Disk, inLog(int(f.Disk.Base[0]-'0'), freezes(2))) {
					t.Errorf("%s: %s", say(from), say(f))
				}
			}
		}
	}
}

// Q3: epochs below, the same as, and above the shard's.
func TestEpochs(t *testing.T) {
	for _, at := range []int{1, 2, 5, most - 1, most} {
		from, to := old(1, in(at, some(2)), in(3, some(4))), fresh(1)
		for _, epoch := range []int{math.MinInt, -1, 0, 1, at - 1, at, at + 1, at + 2, most - 1, most, most + 1, math.MaxInt} {
			m := Begin(2, epoch)
			if epoch <= at || epoch > most { // chapter 14's Encode knows no epoch above that
				refused(t, m, from, to, api.ErrArg)
				continue
			}
			n, _, _ := stepped(t, m, from, to)
			if Join(n.Parts) != encoded(1, in(epoch, some(2))) || n.Epoch != epoch {
				t.Errorf("from %d to %d: %s", at, epoch, say(n))
			}
		}
	}
}

// Q3: what else the move has does not matter at MoveBegun: it is told anew.
func TestBegunWithMore(t *testing.T) {
	for _, come := range []int{math.MinInt, -1, 0, 1, 2, 7, math.MaxInt} {
		for _, parts := range [][]string{nil, {""}, {"x", "y"}, Split(long(700))} {
			m := api.Move{Shard: 2, Epoch: 6, Stage: 1, Version: come, Parts: parts, Come: come}
			if n, _, _ := stepped(t, m, old(1, some(2)), fresh(2)); !sameMove(n, onItsWay(2, 0, some(2))) {
				t.Errorf("%s: %s", say(m), say(n))
			}
		}
	}
}

// sets are all sets of so many faults.
func sets(n int) [][]bool {
	l := make([][]bool, 1<<n)
	for i := range l {
		for k := range n {
			l[i] = append(l[i], i>>k&1 == 1)
		}
	}
	return l
}

// firstOf is the error of the first fault of a set; 0: there is none.
func firstOf(set []bool, errors ...api.Errno) api.Errno {
	for i, is := range set {
		if is {
			return errors[i]
		}
	}
	return 0
}

// either asks for a step that is refused with an error, or, with none, for one that may be.
func either(t *testing.T, m api.Move, from, to api.Host, want api.Errno) {
	t.Helper()
	if want != 0 {
		refused(t, m, from, to, want)
	} else {
		stepped(t, m, from, to)
	}
}

// Q3: at MoveBegun: all sets of faults: the first one of those that there are is told.
func TestBegunFaults(t *testing.T) {
	for fromError, fromBroken := range broken(old(1, some(2))) {
		for toError, toBroken := range broken(fresh(2)) {
			for _, set := range sets(7) {
				m, from, to := begun(), old(1, some(2)), fresh(2)
				if set[6] {
					from = full(from, 2)
				}
				if set[2] {
					from = fromBroken[len(fromBroken)-1]
				}
				if set[3] {
					to = toBroken[0]
				}
				if set[4] {
					m.Shard = 3
				}
				if set[5] {
					m.Epoch = 5
				}
				from.Up, to.Up = !set[0], !set[1]
				either(t, m, from, to, firstOf(set, 90, 90, fromError, toError, 83, 1, 50))
			}
		}
	}
}

// Q3: at MoveBegun: a shard that cannot be told (its epoch would be above all) is told ahead of a full disk, and behind that it is frozen just if there is room.
func TestBegunFull(t *testing.T) {
	for v := 1; v <= 2; v++ {
		from, to := old(v, some(2), bare(5)), fresh(v)
		m := begun()
		refused(t, m, full(from, 5), to, api.ErrFull)
		refused(t, m, full(from, 2), to, api.ErrFull)
		if _, f, _ := stepped(t, m, tight(from, 5), to); len(f.Disk.Kept) != api.MaxLog {
			t.Errorf("a log of %d bytes", len(f.Disk.Kept))
		}
		m.Epoch = most + 1
		refused(t, m, full(from, 5), to, api.ErrArg)
		stepped(t, begun(), from, full(fresh(v, bare(5)), 5)) // whether the new one has room is asked later
	}
}

// Q3: a shard that from does not have, as an Id that may be, and as one that may not.
func TestNoShard(t *testing.T) {
	for _, id := range []int{math.MinInt, -1, 0, 1, 3, 7, 8, most, most + 1, math.MaxInt} {
		refused(t, Begin(id, 6), old(1, some(2), some(5)), fresh(1, some(1), some(3)), api.ErrShard)
		refused(t, Begin(id, 6), old(2), fresh(1), api.ErrShard)
		refused(t, api.Move{Shard: id, Epoch: 6, Stage: 2, Version: 1}, old(1, some(2), some(5)), fresh(2, some(3)), api.ErrShard)
		done, f, h := stepped(t, api.Move{Shard: id, Epoch: 6, Stage: 3}, old(1, some(2), some(5)), fresh(2))
		if done.Stage != api.MoveDone || f != old(1, some(2), some(5)) || h != fresh(2) {
			t.Errorf("%d: %s, %s, %s", id, say(done), say(f), say(h))
		}
	}
	dropped := with(old(1, some(2)), inLog(1, drops(2)), "")
	refused(t, begun(), dropped, fresh(1), api.ErrShard)
}

// Q3: at MoveFrozen: parts come one by one, whatever is on both disks; at none, some, all and more of the parts than there are.
func TestCome(t *testing.T) {
	for _, n := range []int{0, 1, 2, 5} {
		m := api.Move{Shard: 2, Epoch: 6, Stage: 2, Version: 2, Parts: Split(long(100 * n))}
		for _, from := range []api.Host{old(1, some(2)), old(2), broken(old(1))[11][0], full(old(1, some(5)), 5)} {
			for _, to := range []api.Host{fresh(1), fresh(2, some(2)), broken(fresh(1))[22][0], full(fresh(1, some(5)), 5)} {
				for _, come := range []int{math.MinInt, -2, -1, 0, 1, n - 1} {
					if m.Come = come; come >= n {
						continue
					}
					if got, f, h := stepped(t, m, from, to); got.Come != come+1 || got.Stage != 2 || got.Version != 2 || !slices.Equal(got.Parts, m.Parts) || f != from || h != to {
						t.Errorf("%d of %d: %s, %s, %s", come, n, say(got), say(f), say(h))
					}
				}
			}
		}
	}
	for _, s := range shards() {
		for v := 1; v <= 2; v++ {
			m := onItsWay(v, 0, s)
			for _, come := range []int{len(m.Parts), len(m.Parts) + 1, math.MaxInt} {
				m.Come = come
				n, f, h := stepped(t, m, old(1), fresh(v)) // whether from has it is not asked
				want := m
				want.Stage = 3
				if !sameMove(n, want) || f != old(1) || h != with(fresh(v), inLog(v, adopts(v, in(6, thawed(s)))), "") {
					t.Errorf("%d of %d: %s, %s", come, len(m.Parts), say(n), say(h))
				}
				hasShards(t, "there", h, in(6, thawed(s)))
			}
		}
	}
}

// thawed is a shard that is not frozen.
func thawed(s api.Shard) api.Shard {
	s.Frozen = false
	return s
}

// Q3: at MoveFrozen, when all came: shards that to has already, in an older, the same and a later epoch, frozen or not, are replaced, no others.
func TestAdopt(t *testing.T) {
	for v := 1; v <= 2; v++ {
		for _, epoch := range []int{1, 5, 6, 7, most} {
			for _, had := range []api.Shard{bare(2), crowded(2), frozen(some(2))} {
				for _, to := range hostsOf(fresh(1), in(epoch, had)) {
					w := int(to.Disk.Base[0] - '0')
					m := onItsWay(w, 100, some(2))
					n, f, h := stepped(t, m, old(v, some(2)), to)
					if n.Stage != 3 || f != old(v, some(2)) || h.Disk != synced(to.Disk, inLog(w, adopts(w, in(6, some(2))))) {
						t.Errorf("%s: %s, %s", say(to), say(n), say(h))
					}
					if tornEnd(to) {
						continue
					}
					want := host.Shards(to)
					i := slices.IndexFunc(want, func(s api.Shard) bool { return s.Id == 2 })
					want[i] = in(6, some(2))
					hasShards(t, "adopted", h, want...)
				}
			}
		}
	}
}

// Q3: at MoveFrozen: the format of to's disk became another one: Version and Parts are told anew, of what from has then, and nothing else is done.
func TestToldAnew(t *testing.T) {
	for _, s := range []api.Shard{bare(2), some(2), frozen(crowded(2))} {
		for _, from := range hostsOf(old(1), s) {
			for w := 1; w <= 2; w++ {
				for _, was := range []int{math.MinInt, 0, 3 - w, 3, math.MaxInt} {
					m := onItsWay(3-w, 100, bare(2))
					m.Version = was
					to := fresh(w, bare(2), some(3))
					n, f, h := stepped(t, m, from, to)
					if !sameMove(n, onItsWay(w, 0, s)) || f != from || h != to {
						t.Errorf("from %d to %d: %s, %s, %s", was, w, say(n), say(f), say(h))
					}
				}
			}
		}
	}
}

// Q3: at MoveFrozen, with another format: all sets of faults. The new one's disk is read ahead of the old one's, since its format tells that anything is told anew.
func TestToldAnewFaults(t *testing.T) {
	for fromError, fromBroken := range broken(old(1, some(2))) {
		for toError, toBroken := range broken(fresh(2)) {
			for _, set := range sets(7) {
				m, from, to := onItsWay(1, 100, some(2)), old(1, some(2)), fresh(2)
				if set[2] {
					to = toBroken[len(toBroken)-1]
				}
				if set[3] {
					from = fromBroken[0]
				}
				if set[4] {
					m.Shard = 3
				}
				if set[5] {
					m.Epoch = 5
				}
				if set[6] {
					m.Epoch = most + 1
				}
				from.Up, to.Up = !set[0], !set[1]
				either(t, m, from, to, firstOf(set, 90, 90, toError, fromError, 83, 1, 1))
			}
		}
	}
}

// Q3: at MoveFrozen, when all came: all sets of faults, and that parts which are yet to come are told ahead of all but hosts that are not up.
func TestFrozenFaults(t *testing.T) {
	for toError, toBroken := range broken(fresh(2, some(5))) {
		for _, set := range sets(5) {
			m, from, to := onItsWay(2, 100, some(2)), old(1), fresh(2, some(5))
			if set[4] {
				to = full(to, 5)
			}
			if set[3] {
				m.Parts = []string{Join(m.Parts)[1:]}
			}
			if set[2] {
				to = toBroken[0]
			}
			from.Up, to.Up = !set[0], !set[1]
			either(t, m, from, to, firstOf(set, 90, 90, toError, 11, 50))
			if m.Come = len(m.Parts) - 1; from.Up && to.Up {
				if n, _, _ := stepped(t, m, from, to); n.Come != len(m.Parts) {
					t.Errorf("%s", say(n))
				}
			}
		}
	}
}

// Q3: parts that are no shard's bytes, by that version, of that shard.
func TestNoShardsBytes(t *testing.T) {
	for v := 1; v <= 2; v++ {
		good := encoded(v, in(6, some(2)))
		for _, s := range []string{"", "x", good[1:], good[:len(good)-1], good + "x", encoded(3-v, in(6, some(2))), encoded(v, in(6, some(3))), long(100), long(5000)} {
			m := api.Move{Shard: 2, Epoch: 6, Stage: 2, Version: v, Parts: Split(s), Come: 100}
			refused(t, m, old(v, some(2)), fresh(v), api.ErrForm)
			refused(t, m, old(v, some(2)), fresh(v, some(2)), api.ErrForm)
		}
		for _, l := range [][]string{{good}, {good[:1], "", good[1:]}, {"", good[:150], good[150:], ""}} { // joined they are: that is all that is asked
			m := api.Move{Shard: 2, Epoch: 6, Stage: 2, Version: v, Parts: l, Come: 100}
			_, _, h := stepped(t, m, old(v), fresh(v))
			hasShards(t, "joined", h, in(6, some(2)))
		}
		other := api.Move{Shard: 2, Epoch: 6, Stage: 2, Version: v, Parts: Split(encoded(v, frozen(in(9, some(2))))), Come: 100} // what the parts are is what is adopted
		_, _, h := stepped(t, other, old(v), fresh(v))
		hasShards(t, "adopted", h, frozen(in(9, some(2))))
		for _, id := range []int{-1, 8, most + 1} {
			refused(t, api.Move{Shard: id, Epoch: 6, Stage: 2, Version: v, Parts: Split(good), Come: 100}, old(v), fresh(v), api.ErrForm)
		}
	}
}

// Q3: a shard whose bytes are one more than a frame may have is frozen, and comes, but is not adopted; given up it is as it was.
func TestTooLong(t *testing.T) {
	for v := 1; v <= 2; v++ {
		for n := api.MaxFrame - 2; n <= api.MaxFrame+1; n++ {
			s := sized(v, 2, n)
			m, from, to := begun(), old(3-v, s), fresh(v)
			m, from, to = stepped(t, m, from, to)
			if len(m.Parts) != (n+99)/100 {
				t.Errorf("%d bytes: %d parts", n, len(m.Parts))
			}
			for m.Come < len(m.Parts) {
				m, from, to = stepped(t, m, from, to)
			}
			if n < api.MaxFrame { // ahead of them stands the shard's number, of one byte
				m, from, to = stepped(t, m, from, to)
				hasShards(t, "it fits", to, in(6, s))
				continue
			}
			refused(t, m, from, to, api.ErrArg)
			_, f, e := Give(m, from)
			if e != api.OK {
				t.Errorf("%d bytes: %d", n, e)
			}
			hasShards(t, "given up", f, s)
		}
	}
}

// Q3: the new one's log, with just room for the shard, and with one byte less.
func TestAdoptFull(t *testing.T) {
	for v := 1; v <= 2; v++ {
		m := onItsWay(v, 100, some(2))
		entry := inLog(v, adopts(v, in(6, some(2))))
		for _, to := range []api.Host{fresh(v, bare(5)), fresh(v, bare(2), bare(5))} {
			_, _, h := stepped(t, m, old(1, some(2)), with(to, idle(v, 5, api.MaxLog-len(entry)), ""))
			if len(h.Disk.Kept) != api.MaxLog {
				t.Errorf("a log of %d bytes", len(h.Disk.Kept))
			}
			refused(t, m, old(1, some(2)), with(to, idle(v, 5, api.MaxLog-len(entry)+1), ""), api.ErrFull)
			refused(t, m, old(1, some(2)), with(to, "", idle(v, 5, api.MaxLog-len(entry)+1)), api.ErrFull)
		}
	}
}

// Q3: at MoveThere: the old one drops the shard, whatever it is by then; nothing else is changed, nor looked at.
func TestThere(t *testing.T) {
	for _, s := range []api.Shard{bare(2), frozen(some(2)), in(6, some(2)), in(9, crowded(2))} {
		for _, from := range hostsOf(old(1), s) {
			for _, to := range []api.Host{fresh(1), fresh(2, in(6, some(2))), broken(fresh(1))[1][0], full(fresh(1, some(2)), 2)} {
				for _, m := range []api.Move{there(1, some(2)), there(2, bare(2)), {Shard: 2, Stage: 3}, {Shard: 2, Epoch: -1, Stage: 3, Version: 9, Parts: []string{"x"}, Come: -7}} {
					n, f, h := stepped(t, m, from, to)
					want := m
					want.Stage = 4
					if !sameMove(n, want) || h != to || f.Disk != synced(from.Disk, inLog(int(from.Disk.Base[0]-'0'), drops(2))) {
						t.Errorf("%s: %s, %s, %s", say(m), say(n), say(f), say(h))
					}
				}
				if tornEnd(from) {
					continue
				}
				_, f, _ := stepped(t, there(1, s), from, to)
				hasShards(t, "dropped", f, slices.DeleteFunc(host.Shards(from), func(s api.Shard) bool { return s.Id == 2 })...)
			}
		}
	}
}

// Q3: at MoveThere: all sets of faults; that there is no such shard is none.
func TestThereFaults(t *testing.T) {
	for fromError, fromBroken := range broken(old(1, some(2), some(5))) {
		for _, set := range sets(4) {
			m, from, to := there(1, some(2)), old(1, some(2), some(5)), fresh(1, in(6, some(2)))
			if set[3] {
				from = full(from, 5)
			}
			if set[2] {
				from = fromBroken[0]
			}
			from.Up, to.Up = !set[0], !set[1]
			want := firstOf(set, 90, 90, fromError, 50)
			if want == 83 { // a disk of which Load tells that is no other case by the chapter's words
				want = 0
			}
			either(t, m, from, to, want)
		}
	}
	for v := 1; v <= 2; v++ {
		for _, from := range []api.Host{old(v), old(v, some(1), some(3)), full(old(v, some(5)), 5), with(old(v, some(2)), inLog(v, drops(2)), "")} {
			n, f, _ := stepped(t, there(v, some(2)), from, fresh(v))
			if n.Stage != api.MoveDone || f != from {
				t.Errorf("%s, %s", say(n), say(f))
			}
		}
		refused(t, there(v, some(2)), full(old(v, some(2)), 2), fresh(v), api.ErrFull)
		stepped(t, there(v, some(2)), tight(old(v, some(2)), 2), fresh(v))
	}
}

// Q3, Q4: stages at which nothing goes on, and that there are not; a host that is not up is told ahead of that by Step.
func TestOtherStages(t *testing.T) {
	for _, stage := range []int{math.MinInt, -3, -1, 0, 4, 5, 6, 7, math.MaxInt} {
		m := onItsWay(1, 1, some(2))
		m.Stage = stage
		for _, from := range []api.Host{old(1, some(2)), old(2), broken(old(1))[11][0]} {
			for _, to := range []api.Host{fresh(1), broken(fresh(2))[22][0]} {
				refused(t, m, from, to, api.ErrArg)
				refused(t, m, down(from), to, api.ErrDown)
				refused(t, m, from, down(to), api.ErrDown)
				refused(t, m, down(from), down(to), api.ErrDown)
			}
			gaveNot(t, m, from, api.ErrArg)
			gaveNot(t, m, down(from), api.ErrArg)
		}
	}
}

// Q3: either one is not up, both: at each stage.
func TestDown(t *testing.T) {
	for _, m := range []api.Move{begun(), onItsWay(1, 0, some(2)), onItsWay(1, 100, some(2)), onItsWay(2, 100, some(2)), there(1, some(2)), {}} {
		for _, from := range []api.Host{old(1, some(2)), old(2), broken(old(1))[11][0]} {
			for _, to := range []api.Host{fresh(1), fresh(2, bare(2)), broken(fresh(1))[22][0]} {
				refused(t, m, down(from), to, api.ErrDown)
				refused(t, m, from, down(to), api.ErrDown)
				refused(t, m, down(from), down(to), api.ErrDown)
			}
		}
	}
}

// Q4: at MoveBegun nothing was done, so nothing is undone, whatever the host is.
func TestGiveBegun(t *testing.T) {
	for _, m := range []api.Move{begun(), Begin(-1, 0), {Stage: 1, Version: 7, Parts: []string{"x", ""}, Come: -1}} {
		for _, from := range []api.Host{{}, old(1, some(2)), old(2, frozen(some(2))), old(1), full(old(1, some(5)), 5), broken(old(1))[83][0]} {
			for _, h := range []api.Host{from, down(from)} {
				want := m
				want.Stage = 5
				if n, f, e := checkGive(t, m, h); !sameMove(n, want) || f != h || e != api.OK {
					t.Errorf("Give(%s, %s) = %s, %s, %d", say(m), say(h), say(n), say(f), e)
				}
			}
		}
	}
}

// Q4: at MoveFrozen the shard is thawed, however many parts came.
func TestGiveFrozen(t *testing.T) {
	for _, s := range []api.Shard{bare(2), frozen(some(2)), frozen(in(9, crowded(2)))} {
		for _, from := range hostsOf(old(1), s) {
			for _, come := range []int{-1, 0, 1, 2, 100} {
				m := onItsWay(1, come, some(2))
				n, f, e := checkGive(t, m, from)
				want := m
				want.Stage, want.Parts = 5, nil
				if !sameMove(n, want) || e != api.OK || f.Disk != synced(from.Disk, inLog(int(from.Disk.Base[0]-'0'), thaws(2))) {
					t.Errorf("Give(%s, %s) = %s, %s, %d", say(m), say(from), say(n), say(f), e)
				}
				if tornEnd(from) {
					continue
				}
				left := host.Shards(from)
				for i := range left {
					left[i].Frozen = left[i].Frozen && left[i].Id != 2
				}
				hasShards(t, "thawed", f, left...)
			}
		}
	}
}

// Q4: all sets of faults, in its order.
func TestGiveFaults(t *testing.T) {
	for fromError, fromBroken := range broken(old(1, some(2), some(5))) {
		for _, set := range sets(5) {
			m, from := onItsWay(1, 1, some(2)), old(1, some(2), some(5))
			if set[0] {
				m.Stage = 3
			}
			if set[4] {
				from = full(from, 5)
			}
			if set[3] {
				m.Shard = 4
			}
			if set[2] {
				from = fromBroken[len(fromBroken)-1]
			}
			if from.Up = !set[1]; firstOf(set, 1, 1, 1, 1, 1) == 0 {
				checkGive(t, m, from)
				continue
			}
			gaveNot(t, m, from, firstOf(set, 1, 90, fromError, 83, 50))
		}
	}
	for v := 1; v <= 2; v++ {
		m := onItsWay(v, 1, some(2))
		gaveNot(t, m, full(old(v, some(2)), 2), api.ErrFull)
		if n, _, e := checkGive(t, m, tight(old(v, some(2)), 2)); n.Stage != 5 || e != api.OK {
			t.Errorf("%s, %d", say(n), e)
		}
		for _, id := range []int{-1, 0, 3, 8, most + 1} {
			gaveNot(t, api.Move{Shard: id, Epoch: 6, Stage: 2}, old(v, some(2)), api.ErrShard)
		}
	}
}

// Q3, Q4: all moves of small numbers, on hosts of some kinds, in all pairs.
func TestAllSmall(t *testing.T) {
	froms := []api.Host{old(1, bare(2)), old(2, some(2)), old(1), broken(old(2))[1][0]}
	tos := []api.Host{fresh(1), fresh(2, bare(2)), broken(fresh(1))[22][0]}
	told := map[api.Errno]int{}
	for stage := 0; stage <= 6; stage++ {
		for _, epoch := range []int{4, 5, 6, most + 1} {
			for version := 0; version <= 3; version++ {
				for come := 0; come <= 3; come++ {
					for _, parts := range [][]string{nil, {"x"}, {"s\x02\x06\x00", "\x00\x00"}, {encoded(2, in(6, bare(2)))}} {
						m := api.Move{Shard: 2, Epoch: epoch, Stage: stage, Version: version, Parts: parts, Come: come}
						for i, from := range froms {
							from.Up = (stage+come+i)%7 != 3
							for _, to := range tos {
								_, _, _, e := checkStep(t, m, from, to)
								told[e]++
							}
							checkGive(t, m, from)
						}
					}
				}
			}
		}
	}
	for _, e := range []api.Errno{0, 1, 11, 22, 83, 90} {
		if told[e] < 20 {
			t.Errorf("%d was told %d times", e, told[e])
		}
	}
}

// Q3, Q4: the Parts that come out are new memory at each stage, also where they are as they were: writing into them changes neither what was handed in nor another answer. (checkStep asks that, too; here the parts are many.)
func TestNewMemory(t *testing.T) {
	for _, m := range []api.Move{begun(), onItsWay(1, 0, crowded(2)), onItsWay(1, 100, crowded(2)), onItsWay(2, 100, crowded(2)), there(1, crowded(2))} {
		given, all := roomy(m)
		a, _, _, e := Step(given, old(1, some(2)), fresh(1))
		b, _, _, f := Step(given, old(1, some(2)), fresh(1))
		if e != api.OK || f != api.OK {
			t.Fatalf("%s: %d, %d", say(m), e, f)
		}
		was := slices.Clone(b.Parts)
		overwrite(a.Parts)
		if !slices.Equal(b.Parts, was) || !sameMove(given, m) || !slices.Equal(all[len(m.Parts):], []string{"behind", "them"}) {
			t.Errorf("%s: an answer is changed by another one", say(m))
		}
		overwrite(given.Parts)
		if !slices.Equal(b.Parts, was) {
			t.Errorf("%s: what was handed in is kept", say(m))
		}
	}
	m := api.Move{Stage: 1, Parts: []string{"x"}}
	a, _, _ := Give(m, api.Host{})
	if overwrite(a.Parts); m.Parts[0] != "x" {
		t.Error(m)
	}
}

// R4: what is told hangs on what is handed in alone: other moves, between, change nothing.
func TestSameForTheSame(t *testing.T) {
	m, from, to := onItsWay(1, 100, some(2)), old(2, some(2)), fresh(1)
	n, f, h, e := Step(m, from, to)
	for i := range 3 {
		Step(begun(), from, to)
		Step(there(2, some(2)), from, fresh(2))
		Give(m, from)
		x, y, z, g := Step(m, from, to)
		if !sameMove(n, x) || f != y || h != z || e != g {
			t.Errorf("%d: %s, %s, %s, %d", i, say(x), say(y), say(z), g)
		}
	}
}

func FuzzMove(f *testing.F) {
	f.Add(2, 6, 1, 0, "", 0, "1", "", true, "2", "", true)
	for v := 1; v <= 2; v++ {
		data := encoded(v, in(6, some(2)))
		for stage := range 7 {
			f.Add(2, 6, stage, v, data, 100, baseOf(v, some(2)), inLog(v, freezes(2)), true, baseOf(v), "", true)
			f.Add(2, 6, stage, 3-v, data, 100, baseOf(v, frozen(some(2))), "", true, baseOf(v, bare(2)), inLog(v, drops(2)), true)
		}
		f.Add(2, 6, 2, v, strings.Repeat("x", 120), 1, baseOf(v), "x", true, "x", "", true)
	}
	f.Fuzz(func(t *testing.T, id, epoch, stage, version int, parts string, come int, base, log string, up bool, toBase, toLog string, toUp bool) {
		s := Split(parts)
		if Join(s) != parts || !slices.Equal(s, wantSplit(parts)) {
			t.Fatal(fmt.Sprint("split and joined: ", say(parts)))
		}
		m := api.Move{Shard: id, Epoch: epoch, Stage: stage, Version: version, Parts: s, Come: come}
		from := api.Host{Name: 1, Bin: 2, Up: up, Disk: api.Disk{Base: base, Kept: log}}
		to := api.Host{Name: 2, Bin: 2, Up: toUp, Disk: api.Disk{Base: toBase, Pend: toLog}}
		checkStep(t, m, from, to)
		checkGive(t, m, from)
	})
}
