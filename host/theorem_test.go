package host

import (
	"fmt"
	"slices"
	"testing"

	"careen/api"
	"careen/journal"
	"careen/reply"
	"careen/shard"
)

// memory is what one remembers of a host who knows neither disks nor bytes: what was done lasts, whatever happens.
type memory struct {
	up          bool
	bin, format int
	shards      []api.Shard
}

// ask is the reply, and the shards behind the call.
func (m memory) ask(c api.Call) (api.Reply, []api.Shard) {
	i := slices.IndexFunc(m.shards, func(s api.Shard) bool { return s.Id == c.Shard })
	if !m.up {
		return api.Reply{Errno: 90}, m.shards
	} else if i < 0 {
		return api.Reply{Errno: 83}, m.shards
	}
	l := slices.Clone(m.shards)
	s, r, _ := shard.Ask(m.format, l[i], c)
	l[i] = s
	return r, l
}

// pair is a host, and what one remembers of it.
type pair struct {
	h api.Host
	m memory
}

// check holds the host to what one remembers of it.
func (p pair) check(t *testing.T, what string) {
	t.Helper()
	if p.h.Up != p.m.up || p.h.Bin != p.m.bin || p.h.Name != 7 || p.h.Disk.Pend != "" {
		t.Fatalf("%s: %s; want %s", what, say(p.h), say(p.m))
	}
	v, l, e := journal.Load(p.h.Disk)
	if v != p.m.format || !sameAll(l, p.m.shards) || e != api.OK {
		t.Fatalf("%s: %d, %s, %d; want %s", what, v, say(l), e, say(p.m))
	}
	if p.h.Up && p.h.Bin < v {
		t.Fatalf("%s: a binary 1 reads a disk of the format 2", what)
	}
}

// ask asks a call, and tells the reply.
func (p *pair) ask(t *testing.T, c api.Call) api.Reply {
	t.Helper()
	want, l := p.m.ask(c)
	was := p.h
	h, r := Ask(p.h, c)
	if !reply.Same(r, want) {
		t.Fatalf("Ask(%s) = %s; want %s", say(c), say(r), say(want))
	}
	if sameAll(l, p.m.shards) && h != was {
		t.Fatalf("Ask(%s) changed nothing, but the host", say(c))
	}
	p.h, p.m.shards = h, l
	p.check(t, say(c))
	return r
}

// torn tears a call, and tells whether it was done: all of it, or nothing. How many bytes its frame has is what Ask's disk tells.
func (p *pair) torn(t *testing.T, c api.Call, keep int) bool {
	t.Helper()
	_, l := p.m.ask(c)
	whole, _ := Ask(p.h, c)
	n := len(whole.Disk.Kept) - len(p.h.Disk.Kept)
	p.h = Torn(p.h, c, keep)
	p.m.up = false
	done := n > 0 && keep >= n
	if done {
		p.m.shards = l
	}
	p.check(t, fmt.Sprintf("torn, %d of %d: %s", keep, n, say(c)))
	return done
}

// put puts an entry.
func (p *pair) put(t *testing.T, e api.Entry) {
	t.Helper()
	l, want := journal.Apply(p.m.format, p.m.shards, e)
	if !p.m.up {
		l, want = p.m.shards, api.ErrDown
	}
	h, f := Put(p.h, e)
	if f != want || f != api.OK && h != p.h {
		t.Fatalf("Put(%s): %d; want %d", say(e), f, want)
	}
	p.h, p.m.shards = h, l
	p.check(t, say(e))
}

// rewrite asks for a format.
func (p *pair) rewrite(t *testing.T, v int) {
	t.Helper()
	want := api.OK
	if !p.m.up {
		want = api.ErrDown
	} else if v > p.m.bin {
		want = api.ErrVersion
	}
	h, f := Format(p.h, v)
	if f != want || f != api.OK && h != p.h {
		t.Fatalf("Format %d: %d; want %d", v, f, want)
	}
	if p.h = h; f == api.OK {
		p.m.format = v
	}
	p.check(t, fmt.Sprint("format ", v))
}

func (p *pair) stop(t *testing.T) {
	t.Helper()
	p.h, p.m.up = Stop(p.h), false
	p.check(t, "stop")
}

// start starts a binary.
func (p *pair) start(t *testing.T, bin int) {
	t.Helper()
	want := api.OK
	if p.m.up {
		want = api.ErrUp
	} else if p.m.format > bin {
		want = api.ErrVersion
	}
	h, f := Start(p.h, bin)
	if f != want || f != api.OK && h != p.h {
		t.Fatalf("Start %d: %d; want %d", bin, f, want)
	}
	if p.h = h; f == api.OK {
		p.m.up, p.m.bin = true, bin
	}
	p.check(t, fmt.Sprint("start ", bin))
}

// begun is a host with a binary, that has these shards.
func begun(t *testing.T, bin int, l ...api.Shard) pair {
	t.Helper()
	p := pair{h: New(7, bin), m: memory{up: true, bin: bin, format: 1}}
	for _, s := range l {
		p.put(t, adopts(1, s))
	}
	return p
}

// deeds are what may happen to a host.
func deeds() []func(t *testing.T, p *pair) {
	put2, put3, gone := ask(2, 10, 101, put("a", "x")), ask(2, 10, 102, put("a", "y")), ask(2, 15, 1, remove("b"))
	return []func(t *testing.T, p *pair){
		func(t *testing.T, p *pair) { p.ask(t, put2) },
		func(t *testing.T, p *pair) { p.ask(t, put3) },
		func(t *testing.T, p *pair) { p.ask(t, ask(2, 15, 2, mark("b"))) },
		func(t *testing.T, p *pair) { p.torn(t, put2, 0) },
		func(t *testing.T, p *pair) { p.torn(t, put3, 11) },
		func(t *testing.T, p *pair) { p.torn(t, gone, 100) },
		func(t *testing.T, p *pair) { p.stop(t) },
		func(t *testing.T, p *pair) { p.start(t, 1) },
		func(t *testing.T, p *pair) { p.start(t, 2) },
		func(t *testing.T, p *pair) { p.rewrite(t, 1) },
		func(t *testing.T, p *pair) { p.rewrite(t, 2) },
		func(t *testing.T, p *pair) { p.put(t, freezes(2)) },
		func(t *testing.T, p *pair) { p.put(t, thaws(2)) },
		func(t *testing.T, p *pair) { p.put(t, drops(2)) },
		func(t *testing.T, p *pair) { p.put(t, adopts(p.m.format, bare(2))) },
	}
}

// W6: all short ways: whatever happens, one behind the other, the host is what one remembers who knows neither disks nor bytes.
func TestShortWays(t *testing.T) {
	all := deeds()
	var walk func(p pair, left int)
	walk = func(p pair, left int) {
		for _, deed := range all {
			q := p
			if deed(t, &q); left > 1 {
				walk(q, left-1)
			}
		}
	}
	for bin := 1; bin <= 2; bin++ {
		walk(begun(t, bin, some(2)), 4)
	}
}

// random is a call that looks like chance: mostly a client's next one.
func random(seed *uint64, n int) api.Call {
	key := fmt.Sprint("k", next(seed)%6)
	ops := []api.Op{put(key, fmt.Sprint("v", n)), put(key, fmt.Sprint("w", n)), remove(key), cas(key, fmt.Sprint("c", n), next(seed)%3), mark(key), get(key), scan()}
	return ask(next(seed)%4, next(seed)%9+1, n/20+next(seed)%4+1, ops[next(seed)%len(ops)])
}

// W6: long ways, of all that may happen, mostly calls: what was replied is replied alike as long as no later call of that client came, and nobody took the shard away.
func TestLongWays(t *testing.T) {
	told, torn := map[api.Errno]int{}, map[bool]int{}
	for seed := range uint64(12) {
		x := seed
		p := begun(t, int(seed%2)+1, bare(0), bare(1), some(2))
		for n := range 300 {
			switch next(&x) % 30 {
			case 0:
				p.stop(t)
			case 1, 2, 3:
				torn[p.torn(t, random(&x, n), next(&x)%60-3)]++
			case 4, 5, 6, 7:
				p.start(t, next(&x)%2+1)
			case 8, 9:
				p.rewrite(t, next(&x)%2+1)
			case 10:
				p.put(t, freezes(next(&x)%4))
			case 11, 12:
				p.put(t, thaws(next(&x)%4))
			case 13:
				id := next(&x) % 40
				p.put(t, []api.Entry{drops(id), adopts(p.m.format, bare(id%8))}[next(&x)%2])
			default:
				c := random(&x, n)
				r := p.ask(t, c)
				if told[r.Errno]++; r.Errno == api.OK && c.Op.Kind < api.OpScan && c.Op.Kind > api.OpGet {
					if again := p.ask(t, c); !reply.Same(again, r) {
						t.Errorf("%s: %s, again %s", say(c), say(r), say(again))
					}
				}
			}
		}
	}
	for _, e := range []api.Errno{0, 22, 70, 71, 81, 82, 83, 90} {
		if told[e] < 10 {
			t.Errorf("%d was told %d times", e, told[e])
		}
	}
	if torn[true] < 20 || torn[false] < 50 {
		t.Errorf("torn: %v", torn)
	}
}

// kept asks of a host that is not up that all calls that were replied are there: their replies, and the shards that they left.
func kept(t *testing.T, what string, h api.Host, bin int, l []api.Call, replies []api.Reply) {
	t.Helper()
	h = started(t, h, bin)
	for i, c := range l {
		if got, r := Ask(h, c); got != h || !reply.Same(r, replies[i]) {
			t.Errorf("%s: %s is replied %s; it was %s", what, say(c), say(r), say(replies[i]))
		}
	}
}

// W6: what was replied outlives each crash, at each place: behind each call a stop, and a torn one, of which each number of bytes is kept; and the torn call was done wholly, or not at all.
func TestRepliedOutlives(t *testing.T) {
	for v := 1; v <= 2; v++ {
		h, e := Format(filled(t, New(7, 2), adopts(1, bare(2)), adopts(1, bare(5))), v)
		if e != api.OK {
			t.Fatal(e)
		}
		ops := []api.Op{put("a", "x"), remove("z"), put("b", long(200)), cas("a", "y", 1), cas("a", "z", 1), remove("b")}
		var l []api.Call
		var replies []api.Reply
		for i, o := range ops { // one of each client, so that each reply stays
			c := ask(2+i%2*3, i+1, i+1, o)
			behind, r := Ask(h, c)
			n := len(behind.Disk.Kept) - len(h.Disk.Kept)
			for keep := -1; keep <= n+1; keep++ {
				torn := Torn(h, c, keep)
				kept(t, fmt.Sprintf("torn, %d of %d", keep, n), torn, 2, l, replies)
				want := Shards(h)
				if keep >= n {
					want = Shards(behind)
				}
				checkShards(t, torn, want)
				checkShards(t, started(t, torn, 2), want)
				again, s := Ask(started(t, torn, 2), c)
				if !reply.Same(r, s) || !sameAll(Shards(again), Shards(behind)) || again.Disk.Kept == "" != (keep >= n) {
					t.Errorf("torn, %d of %d, and asked again: %s, %s", keep, n, say(s), say(again))
				}
			}
			h = behind
			l, replies = append(l, c), append(replies, r)
			kept(t, "stopped", Stop(h), 2, l, replies)
		}
	}
}

// W6: crash behind crash: a torn host is started, asked, torn, again and again; nothing that was replied is lost.
func TestCrashBehindCrash(t *testing.T) {
	for bin := 1; bin <= 2; bin++ {
		p := begun(t, bin, bare(2))
		rev := 0
		for n := range 80 {
			if p.torn(t, ask(2, 1, 2*n+1, put("a", "torn")), n) {
				rev++
			}
			p.torn(t, ask(2, 1, 2*n+2, put("a", "y")), 100) // it is not up
			p.start(t, bin)
			if r := p.ask(t, ask(2, 1, 2*n+2, put("a", "y"))); r.Rev != rev+1 {
				t.Fatalf("%d: Rev %d, behind %d", n, r.Rev, rev)
			}
			rev++
			if n%3 == 0 {
				p.stop(t)
				p.stop(t)
				p.start(t, bin)
			}
		}
	}
}

// W6: another binary changes no shard, nor does another format, there and back; and with one and the same format a host's disk is the same each time.
func TestOthersChangeNothing(t *testing.T) {
	for _, l := range [][]api.Shard{nil, somes(2), somes(0, 1, 2, 3, 4, 5, 6, 7), {bare(0), frozen(1), crowded(2), some(7)}, greats(2, api.MaxBase)} {
		h := up(2, api.Disk{Base: baseOf(1, l...)})
		for n, to := range []int{2, 2, 1, 1, 2, 1} {
			next, e := Format(h, to)
			if e != api.OK || next != up(2, api.Disk{Base: baseOf(to, l...)}) {
				t.Fatalf("%d: format %d: %d, %s", n, to, e, say(next))
			}
			h = next
			checkShards(t, h, l)
			for bin := to; bin <= 2; bin++ {
				other := started(t, Stop(h), bin)
				checkHost(t, "another binary", other, 0, up(bin, h.Disk), 0)
				checkShards(t, other, l)
				checkShards(t, Stop(other), l)
				checkHost(t, "and back", started(t, Stop(other), 2), 0, h, 0)
			}
		}
	}
}

// W6: what the version 2 alone knows goes down to the format 1, to a binary 1, which asks and writes, and up again: it is there.
func TestDownAndUp(t *testing.T) {
	h, _ := Format(filled(t, New(7, 2), adopts(1, some(2))), 2)
	h = asked(t, h, ask(2, 10, 101, mark("b")), 0, 3)
	h, e := Format(h, 1)
	if e != api.OK {
		t.Fatal(e)
	}
	h = started(t, Stop(h), 1)
	h = asked(t, h, ask(2, 10, 102, put("b", "y")), 0, 4)
	h = started(t, Torn(h, ask(2, 10, 103, put("b", "z")), 5), 2)
	h, e = Format(h, 2)
	if e != api.OK {
		t.Fatal(e)
	}
	want := some(2)
	want.Table[1] = api.Record{Key: "b", Value: "y", Rev: 4, Life: 9, Note: "m"}
	want.Cache[0] = api.Done{Client: 10, Id: 102, Reply: api.Reply{Rev: 4}}
	checkShards(t, h, []api.Shard{want})
	checkHost(t, "all of it", h, 0, up(2, api.Disk{Base: baseOf(2, want)}), 0)
}

// W6: a host of the binary 1 starts on no disk of the format 2, nor makes one.
func TestBinaryOne(t *testing.T) {
	for _, d := range disks(2) {
		for was := 0; was <= 3; was++ {
			got, e := Start(down(was, d), 1)
			checkHost(t, say(d), got, e, down(was, d), api.ErrVersion)
			got, e = Start(Stop(up(was, d)), 1)
			checkHost(t, say(d), got, e, Stop(up(was, d)), api.ErrVersion)
		}
		back, e := Format(started(t, down(1, d), 2), 1)
		if e != api.OK {
			t.Fatal(e)
		}
		checkShards(t, started(t, Stop(back), 1), Shards(down(1, d)))
	}
	for _, d := range disks(1) {
		got, e := Format(up(1, d), 2)
		checkHost(t, say(d), got, e, up(1, d), api.ErrVersion)
	}
}

// W6: unlike hosts have nothing to do with one another, nor has one host with what was made of it before: each answer hangs on what is handed in alone.
func TestSameForTheSame(t *testing.T) {
	h := filled(t, New(7, 2), adopts(1, some(2)))
	other := filled(t, New(8, 1), adopts(1, bare(2)))
	c := ask(2, 10, 101, put("a", "x"))
	first, r := Ask(h, c)
	Ask(other, c)
	Torn(first, ask(2, 10, 102, put("a", "y")), 9)
	overwriteAll(Shards(h))
	overwrite(r.Keys, "over")
	for range 3 {
		again, s := Ask(h, c)
		if again != first || s.Rev != 2 || h.Name != 7 || other.Disk.Kept != inLog(1, adopts(1, bare(2))) {
			t.Errorf("%s, %s", say(again), say(s))
		}
	}
}

func FuzzHost(f *testing.F) {
	f.Add("", "", "", 2, true, 0, 1, 2, "", 5)
	for v := 1; v <= 2; v++ {
		f.Add(baseOf(v, somes(0, 2)...), inLog(v, freezes(2)), inLog(v, thaws(2)), v, true, v, 3, 2, bytesOf(ask(2, 10, 101, put("a", "x"))), 9)
		f.Add(baseOf(v, some(2)), "", "", 2, false, 3-v, 1, 3, encoded(v, some(3)), -1)
		f.Add(baseOf(v, somes(2, 5)...), inLog(v, drops(5))+"x", "", 3, true, 3, 3, 2, bytesOf(ask(2, 10, 100, mark("a"))), 100)
	}
	f.Fuzz(func(t *testing.T, base, kept, pend string, bin int, isUp bool, v, kind, id int, data string, keep int) {
		h := api.Host{Name: id, Bin: bin, Up: isUp, Disk: api.Disk{Base: base, Kept: kept, Pend: pend}}
		_, l, _ := journal.Load(h.Disk)
		checkShards(t, h, l)
		c, _ := journal.OfCall(data)
		checkAsk(t, h, c)
		checkTorn(t, h, c, keep)
		checkPut(t, h, api.Entry{Kind: kind, Shard: id, Data: data})
		checkFormat(t, h, v)
		checkStart(t, h, v)
		checkStop(t, h)
	})
}
