package host

import (
	"fmt"
	"math"
	"testing"

	"careen/api"
	"careen/disk"
	"careen/frame"
	"careen/reply"
	"careen/shard"
)

// served is a host up, in a format, with a binary: some shards, one that is frozen, one that has all clients that it may, one that is full.
func served(bin, v int) api.Host {
	full := some(6)
	for len(full.Table) < api.MaxKeys {
		full.Table = append(full.Table, api.Record{Key: fmt.Sprintf("k%02d", len(full.Table))})
	}
	return up(bin, api.Disk{Base: baseOf(v, some(2), frozen(3), crowded(5), full)})
}

// W2: written out: what is replied, and whether something is written.
func TestAsk(t *testing.T) {
	for _, c := range []struct {
		c       api.Call
		r       api.Reply
		written bool
	}{
		{ask(2, 10, 101, put("a", "x")), api.Reply{Rev: 2}, true},
		{ask(2, 10, 101, put("new", "x")), api.Reply{Rev: 1}, true},
		{ask(2, 15, 1, put("new", "x")), api.Reply{Rev: 1}, true},
		{ask(2, 10, 1000, remove("a")), api.Reply{Rev: 1}, true},
		{ask(2, 10, 101, remove("z")), api.Reply{Errno: 70}, true}, // its error is kept
		{ask(2, 10, 101, cas("b", "x", 2)), api.Reply{Rev: 3}, true},
		{ask(2, 10, 101, cas("b", "x", 1)), api.Reply{Errno: 71, Rev: 2}, true},
		{ask(6, 10, 101, put("new", "x")), api.Reply{Errno: 50}, true},
		{ask(2, 10, 101, get("a")), api.Reply{Rev: 1, Value: "va"}, false},
		{ask(2, 10, 101, get("z")), api.Reply{Errno: 70}, false},
		{ask(2, 10, 99, get("a")), api.Reply{Rev: 1, Value: "va"}, false},
		{ask(2, 10, 101, scan()), api.Reply{Keys: []string{"a", "b"}}, false},
		{ask(3, 10, 101, get("a")), api.Reply{Rev: 1, Value: "va"}, false},
		{ask(5, 15, 101, get("a")), api.Reply{Rev: 1, Value: "va"}, false},
		{ask(2, 10, 100, put("a", "x")), last(10, 100, "k", "", "l").Reply, false},
		{ask(3, 10, 100, put("a", "x")), last(10, 100, "k", "", "l").Reply, false},
		{ask(2, 10, 99, put("a", "x")), api.Reply{Errno: 81}, false},
		{ask(3, 10, 101, put("a", "x")), api.Reply{Errno: 82}, false},
		{ask(5, 15, 101, put("a", "x")), api.Reply{Errno: 50}, false},
		{ask(4, 10, 101, put("a", "x")), api.Reply{Errno: 83}, false},
		{ask(-1, 10, 101, get("a")), api.Reply{Errno: 83}, false},
		{ask(8, 0, 0, api.Op{}), api.Reply{Errno: 83}, false},
		{ask(2, 0, 101, get("a")), api.Reply{Errno: 1}, false},
		{ask(2, 1001, 101, put("a", "x")), api.Reply{Errno: 1}, false},
		{ask(2, 10, 0, put("a", "x")), api.Reply{Errno: 1}, false},
		{ask(2, 10, most+1, put("a", "x")), api.Reply{Errno: 1}, false},
		{ask(2, 10, 101, api.Op{}), api.Reply{Errno: 1}, false},
		{ask(2, 10, 101, put("", "x")), api.Reply{Errno: 1}, false},
		{ask(2, 10, 101, put("a", long(201))), api.Reply{Errno: 1}, false},
		{api.Call{Shard: 2, Epoch: 4, Client: 10, Id: 101, Op: put("a", "x")}, api.Reply{Errno: 80}, false},
		{api.Call{Shard: 2, Epoch: 6, Client: 10, Id: 101, Op: get("a")}, api.Reply{Errno: 80}, false},
	} {
		for v := 1; v <= 2; v++ {
			h := served(2, v)
			got, r := checkAsk(t, h, c.c)
			if c.written {
				h.Disk.Kept = inLog(v, calls(c.c))
			}
			checkHost(t, say(c.c), got, r.Errno, h, c.r.Errno)
			if !reply.Same(r, c.r) {
				t.Errorf("Ask(%s) = %s; want %s", say(c.c), say(r), say(c.r))
			}
		}
	}
}

// W2: all calls to all disks; what is told is told often enough, and the shard is what chapter 14 makes of it, and no other one is changed.
func TestAskByTheWords(t *testing.T) {
	told := map[api.Errno]int{}
	for v := 1; v <= 2; v++ {
		for _, d := range disks(v) {
			l := Shards(up(2, d))
			for _, c := range asks() {
				got, r := checkAsk(t, up(v, d), c)
				told[r.Errno]++
				if got.Disk == d {
					continue
				}
				want := deepAll(l)
				for i, s := range want {
					if s.Id == c.Shard {
						want[i], _, _ = shard.Ask(v, s, c)
					}
				}
				if got.Disk.Pend != "" || got.Disk.Base != d.Base || len(d.Kept) >= len(got.Disk.Kept) {
					t.Errorf("Ask(%s) is not synced: %s", say(c), say(got))
				}
				if _, n, _ := frame.Scan(v, disk.Log(d)); n == len(disk.Log(d)) { // behind a torn end nothing can be loaded
					checkShards(t, got, want)
				}
			}
		}
	}
	for _, e := range []api.Errno{0, 1, 22, 70, 71, 80, 81, 82, 83} {
		if told[e] < 10 {
			t.Errorf("%d is told %d times", e, told[e])
		}
	}
}

// W2, W3: a host that is not up answers nothing, and is as it was.
func TestAskDown(t *testing.T) {
	all := broken()
	for v := 1; v <= 2; v++ {
		for _, d := range disks(v) {
			all[d] = 0
		}
	}
	l := asks()
	for d := range all {
		for i := 0; i < len(l); i += 7 {
			h := down(2, d)
			got, r := Ask(h, l[i])
			checkHost(t, "down", got, r.Errno, h, api.ErrDown)
			if !reply.Same(r, api.Reply{Errno: 90}) {
				t.Errorf("a reply: %s", say(r))
			}
			for _, keep := range []int{math.MinInt, -1, 0, 1, 9, math.MaxInt} {
				checkHost(t, "down, torn", Torn(h, l[i], keep), 0, h, 0)
			}
		}
	}
}

// W2, W3: a disk that Load does not read: its error, and the host as it was, but for what a crash tears.
func TestAskBroken(t *testing.T) {
	for d, want := range broken() {
		for _, c := range []api.Call{ask(2, 10, 101, put("a", "x")), ask(2, 10, 101, get("a")), ask(2, 10, 100, put("a", "x")), ask(4, 10, 101, put("a", "x")), {}} {
			h := up(2, d)
			got, r := Ask(h, c)
			checkHost(t, say(d), got, r.Errno, h, want)
			if !reply.Same(r, api.Reply{Errno: want}) {
				t.Errorf("a reply: %s", say(r))
			}
			for keep := -1; keep <= len(d.Pend)+1; keep++ {
				checkHost(t, "torn", Torn(h, c, keep), 0, down(2, disk.Crash(d, keep)), 0)
			}
		}
	}
}

// trouble is a set of things that are wrong with a call.
type trouble int

func (x trouble) has(n int) bool { return x>>n&1 == 1 }

// first is what is told of them, in W2's and N2's order; 0: nothing.
func (x trouble) first(v int) api.Errno {
	for n, e := range []api.Errno{90, 11, 83, 1, 80, api.Errno([]int{0, 22, 1}[v]), 81, 82, 50, 50} {
		if x.has(n) {
			return e
		}
	}
	return api.OK
}

// made is a host and a call that have them; false: not at once.
func (x trouble) made(v int, logs map[bool]string) (api.Host, api.Call, bool) {
	s, c := some(2), ask(2, 15, 1, put("a", "x"))
	if s.Frozen = x.has(7); x.has(8) {
		s.Cache = crowded(2).Cache
	}
	h := up(2, api.Disk{Base: baseOf(v, s, bare(5)), Kept: logs[x.has(9)]})
	if h.Up = !x.has(0); x.has(1) {
		h.Disk.Pend = "x"
	}
	if x.has(2) {
		c.Shard = 4
	}
	if x.has(6) {
		c.Client, c.Id = 10, 99
	}
	if x.has(3) {
		c.Id = 0
	}
	if x.has(4) {
		c.Epoch = 4
	}
	if x.has(5) && v == 1 {
		c.Op.Kind = api.OpMark
	} else if x.has(5) {
		c.Op.Value = long(201)
	}
	return h, c, !x.has(6) || !x.has(8) // an older call's client is there
}

// W2: several things wrong at once, in all sets: the first one is told, and the host is as it was.
func TestAskOrder(t *testing.T) {
	for v := 1; v <= 2; v++ {
		logs := map[bool]string{true: idle(v, 5, api.MaxLog-3)}
		for x := range trouble(1 << 10) {
			h, c, ok := x.made(v, logs)
			if !ok {
				continue
			}
			got, r := Ask(h, c)
			want, wish := x.first(v), h
			if want == api.OK {
				wish.Disk.Kept = inLog(v, calls(c))
			}
			checkHost(t, fmt.Sprintf("set %b", x), got, r.Errno, wish, want)
			if want != api.OK && !reply.Same(r, api.Reply{Errno: want}) {
				t.Errorf("set %b: a reply: %s", x, say(r))
			}
		}
	}
}

// W2: a call that is asked twice is replied alike, and the second time nothing is written: behind a stop, other formats, other binaries, other clients' calls, a torn one, a freeze, too.
func TestAskTwice(t *testing.T) {
	for v := 1; v <= 2; v++ {
		for _, o := range []api.Op{put("a", "x"), put("new", "x"), remove("a"), remove("z"), cas("a", "x", 1), cas("a", "x", 2), mark("a")} {
			c := ask(2, 10, 101, o)
			h, r := Ask(served(2, v), c)
			if v == 1 && o.Kind == api.OpMark {
				checkHost(t, "mark", h, r.Errno, served(2, v), api.ErrVersion)
				continue
			}
			twice := func(what string, h api.Host) {
				t.Helper()
				for range 2 {
					got, s := checkAsk(t, h, c)
					checkHost(t, what, got, 0, h, 0)
					if !reply.Same(r, s) {
						t.Errorf("%s: %s; want %s", what, say(s), say(r))
					}
				}
			}
			twice("at once", h)
			twice("stopped", started(t, Stop(h), 2))
			other, _ := Format(h, 3-v)
			if o.Kind == api.OpMark { // by the format 1 it is none, done or not: chapter 14 asks that first
				got, s := checkAsk(t, other, c)
				checkHost(t, "mark in the format 1", got, s.Errno, other, api.ErrVersion)
			} else {
				twice("in another format", other)
			}
			other, _ = Format(other, v)
			twice("and back", other)
			twice("another binary", started(t, Stop(h), v))
			twice("frozen", filled(t, h, freezes(2)))
			twice("others", asked(t, asked(t, h, ask(2, 20, 8, put("b", "y")), 0, 3), ask(2, 30, 1, put("c", "y")), 0, 1))
			twice("torn", started(t, Torn(h, ask(2, 10, 102, put("b", "y")), 9), 2))
			twice("dropped and adopted", filled(t, h, drops(2), adopts(v, Shards(h)[0])))
		}
	}
}

// W2: a mark is told ErrVersion in the format 1, whatever the binary, and is done in the format 2.
func TestAskMark(t *testing.T) {
	for bin := 1; bin <= 2; bin++ {
		h := served(bin, 1)
		got, r := checkAsk(t, h, ask(2, 10, 101, mark("a")))
		checkHost(t, "mark", got, r.Errno, h, api.ErrVersion)
		checkShards(t, started(t, Torn(h, ask(2, 10, 101, mark("a")), 100), bin), Shards(h))
	}
	two, e := Format(served(2, 1), 2)
	if e != api.OK {
		t.Fatal(e)
	}
	h := asked(t, two, ask(2, 10, 101, mark("a")), 0, 2)
	if x := Shards(h)[0].Table[0]; x.Life != 9 || x.Note != "m" || x.Value != "va" || len(x.Extra) != 3 {
		t.Errorf("marked: %s", say(x))
	}
}

// W2: a log that is full: what has just room is done; one byte more is refused, and nothing is changed; what writes nothing is replied all the same; rewritten, there is room again.
func TestAskFull(t *testing.T) {
	for v := 1; v <= 2; v++ {
		c := ask(2, 10, 101, put("a", "x"))
		for left := -2; left <= 2; left++ {
			h := served(2, v)
			h.Disk.Kept = idle(v, 2, api.MaxLog-len(inLog(v, calls(c)))-left)
			got, r := checkAsk(t, h, c)
			if left >= 0 {
				want := h
				want.Disk.Kept += inLog(v, calls(c))
				checkHost(t, fmt.Sprint("room: ", left), got, r.Errno, want, 0)
				continue
			}
			checkHost(t, fmt.Sprint("no room: ", left), got, r.Errno, h, api.ErrFull)
			if !reply.Same(r, api.Reply{Errno: 50}) {
				t.Errorf("a reply: %s", say(r))
			}
			for _, other := range []api.Call{ask(2, 10, 101, get("a")), ask(2, 10, 100, put("a", "x")), ask(2, 10, 99, put("a", "x")), ask(3, 10, 101, put("a", "x")), ask(2, 10, 101, scan())} {
				want, s := Ask(served(2, v), other)
				got, r := checkAsk(t, h, other)
				want.Disk.Kept = h.Disk.Kept
				checkHost(t, "what writes nothing", got, r.Errno, want, s.Errno)
			}
			checkShards(t, Torn(h, c, 100), Shards(h))
			again, e := Format(h, v)
			if e != api.OK || again != served(2, v) {
				t.Errorf("rewritten: %d, %s", e, say(again))
			}
			asked(t, again, c, 0, 2)
			asked(t, started(t, Stop(h), 2), c, 0, 2)
		}
	}
}

// W2: a log that calls fill, one behind the other: up to the last one all are done, and none is lost.
func TestAskTillFull(t *testing.T) {
	for v := 1; v <= 2; v++ {
		h := up(2, api.Disk{Base: baseOf(v, bare(2))})
		n := 0
		for {
			got, r := Ask(h, ask(2, 1, n+1, put(fmt.Sprint("k", n%20), long(200))))
			if r.Errno != api.OK {
				checkHost(t, "full", got, r.Errno, h, api.ErrFull)
				break
			}
			if n++; r.Rev != (n+19)/20 || len(got.Disk.Kept) > api.MaxLog {
				t.Fatalf("call %d: Rev %d", n, r.Rev)
			}
			h = got
		}
		if n < 300 || len(h.Disk.Kept) < api.MaxLog-300 {
			t.Errorf("only %d calls, %d bytes", n, len(h.Disk.Kept))
		}
		h = started(t, Stop(h), 2)
		asked(t, h, ask(2, 1, n, put("k0", "")), 0, (n+19)/20)
		asked(t, h, ask(2, 1, n+1, put(fmt.Sprint("k", n%20), "x")), 0, (n+20)/20)
	}
}

// W2: a call that writes nothing leaves what pends as it was; one that writes lets it last.
func TestAskPending(t *testing.T) {
	for v := 1; v <= 2; v++ {
		h := served(2, v)
		h.Disk.Pend = inLog(v, freezes(6))
		for _, c := range []api.Call{ask(2, 10, 101, get("a")), ask(2, 10, 100, put("a", "x")), ask(2, 10, 99, put("a", "x")), ask(6, 10, 101, put("a", "x")), ask(4, 10, 101, get("a"))} {
			got, r := checkAsk(t, h, c)
			checkHost(t, say(c), got, 0, h, 0)
			if r.Errno == api.OK {
				checkHost(t, "stopped", Stop(got), 0, Stop(served(2, v)), 0)
			}
		}
		c := ask(2, 10, 101, put("a", "x"))
		want := served(2, v)
		want.Disk.Kept = h.Disk.Pend + inLog(v, calls(c))
		checkHost(t, say(c), asked(t, h, c, 0, 2), 0, want, 0)
	}
}

// W3: each number of bytes that outlive the crash: fewer than none, none, each up to all of the last frame, and more than there are.
func TestTorn(t *testing.T) {
	for v := 1; v <= 2; v++ {
		for _, c := range []api.Call{ask(2, 10, 101, put("a", "x")), ask(2, 10, 101, put("new", long(200))), ask(2, 15, 1, remove("z")), ask(2, 10, 101, cas("a", "x", 2)), ask(6, 10, 101, put("new", "x"))} {
			h := served(2, v)
			f := inLog(v, calls(c))
			for keep := -2; keep <= len(f)+2; keep++ {
				want := h
				want.Up, want.Disk.Kept = false, f[:min(max(keep, 0), len(f))]
				checkHost(t, fmt.Sprint("keep ", keep), checkTorn(t, h, c, keep), 0, want, 0)
			}
			none, all := checkTorn(t, h, c, math.MinInt), checkTorn(t, h, c, math.MaxInt)
			if none.Disk.Kept != "" || all.Disk.Kept != f {
				t.Errorf("%s, %s", say(none), say(all))
			}
		}
	}
}

// W3: what pended ahead of the call is torn first.
func TestTornPending(t *testing.T) {
	for v := 1; v <= 2; v++ {
		c := ask(2, 10, 101, put("a", "x"))
		pends := inLog(v, freezes(6)) + inLog(v, thaws(3))
		h := served(2, v)
		h.Disk.Kept, h.Disk.Pend = inLog(v, freezes(5)), pends
		all := pends + inLog(v, calls(c))
		for keep := -1; keep <= len(all)+1; keep++ {
			want := served(2, v)
			want.Up, want.Disk.Kept = false, inLog(v, freezes(5))+all[:min(max(keep, 0), len(all))]
			checkHost(t, fmt.Sprint("keep ", keep), checkTorn(t, h, c, keep), 0, want, 0)
			want.Disk.Kept = inLog(v, freezes(5)) + pends[:min(max(keep, 0), len(pends))]
			checkHost(t, fmt.Sprint("read, keep ", keep), checkTorn(t, h, ask(2, 10, 101, get("a")), keep), 0, want, 0)
		}
	}
}

// W3: a call that writes nothing: reads, one that was done, that is older, that is refused, of a shard that is not there, of a disk that is full: the host is not up, and has nothing more.
func TestTornNothing(t *testing.T) {
	for v := 1; v <= 2; v++ {
		full := served(2, v)
		full.Disk.Kept = idle(v, 2, api.MaxLog-3)
		for _, keep := range []int{-1, 0, 1, 20, 1000} {
			for _, c := range []api.Call{ask(2, 10, 101, get("a")), ask(2, 10, 100, put("a", "x")), ask(2, 10, 99, put("a", "x")), ask(3, 10, 101, put("a", "x")), ask(5, 15, 101, put("a", "x")), ask(4, 10, 101, put("a", "x")), ask(2, 0, 101, put("a", "x")), {}} {
				checkHost(t, say(c), checkTorn(t, served(2, v), c, keep), 0, Stop(served(2, v)), 0)
			}
			checkHost(t, "full", checkTorn(t, full, ask(2, 10, 101, put("a", "x")), keep), 0, Stop(full), 0)
		}
	}
}

// W3: all calls to all disks, torn.
func TestTornByTheWords(t *testing.T) {
	l := asks()
	for v := 1; v <= 2; v++ {
		for n, d := range disks(v) {
			for i := n % 5; i < len(l); i += 5 {
				for _, keep := range []int{-1, 0, 3, len(d.Pend) + 20, 1000} {
					checkTorn(t, up(2, d), l[i], keep)
				}
			}
		}
	}
}
