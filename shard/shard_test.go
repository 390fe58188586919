package shard

import (
	"fmt"
	"math"
	"slices"
	"testing"

	"careen/api"
	"careen/table"
)

// The chapter's example.
func TestExample(t *testing.T) {
	for v := 1; v <= 2; v++ {
		s, r, changed := Ask(v, api.Shard{Epoch: 1}, api.Call{Epoch: 1, Client: 1, Id: 1, Op: put("a", "x")})
		if !equalReply(r, rep(1, "")) || !changed {
			t.Error(r, changed)
		}
		u, r, changed := Ask(v, s, api.Call{Epoch: 1, Client: 1, Id: 1, Op: put("a", "x")})
		if !equalReply(r, rep(1, "")) || changed || !equal(u, s) {
			t.Error(r, changed, u)
		}
		if !equal(s, api.Shard{Epoch: 1, Table: []api.Record{rec("a", "x", 1)}, Cache: []api.Done{last(1, 1, rep(1, ""))}}) {
			t.Error(s)
		}
	}
}

// N1: what is right, and what is not; neither is written into.
func TestRight(t *testing.T) {
	for i, all := range [][]api.Shard{shards(), wrongShards()} {
		for _, s := range all {
			in, watched := held(s)
			if Right(in) != (i == 0) || Right(s) != (i == 0) || wantRight(s) != (i == 0) {
				t.Errorf("Right(%s) is not %v", say(s), i == 0)
			}
			if watched.tells() {
				t.Errorf("Right(%s) wrote into it", say(s))
			}
		}
	}
}

// N1: written out, each edge alone.
func TestRightEdges(t *testing.T) {
	for id, want := range map[int]bool{math.MinInt: false, -1: false, 0: true, 1: true, 7: true, 8: false, math.MaxInt: false} {
		if Right(api.Shard{Id: id, Epoch: 1}) != want || Right(api.Shard{Id: id, Epoch: 1, Frozen: true}) != want {
			t.Errorf("Id %d: not %v", id, want)
		}
	}
	for epoch, want := range map[int]bool{math.MinInt: false, -1: false, 0: false, 1: true, 2: true, most: true, most + 1: false, math.MaxInt: false} {
		if Right(api.Shard{Epoch: epoch}) != want {
			t.Errorf("Epoch %d: not %v", epoch, want)
		}
	}
	for n, want := range map[int]bool{0: true, 1: true, 19: true, 20: true, 21: false, 22: false, 276: false} {
		if Right(api.Shard{Epoch: 1, Table: records(n)}) != want {
			t.Errorf("%d records: not %v", n, want)
		}
	}
	for n, want := range map[int]bool{0: true, 1: true, 7: true, 8: true, 9: false, 10: false, 99: false} {
		if Right(api.Shard{Epoch: 1, Cache: replies(n)}) != want {
			t.Errorf("%d replies: not %v", n, want)
		}
	}
}

// N1: of all shards, right or not.
func TestSame(t *testing.T) {
	all := append(shards(), wrongShards()...)
	for i, a := range all {
		in, watched := held(a)
		for j, b := range all {
			if want := equal(a, b); Same(in, b) != want || Same(b, in) != want || i == j && !want {
				t.Errorf("Same(%s, %s) is not %v", say(a), say(b), want)
			}
		}
		if watched.tells() {
			t.Errorf("Same(%s, ..) wrote into it", say(a))
		}
	}
}

// N1: each difference alone.
func TestSameEachDifference(t *testing.T) {
	for i, change := range []func(s *api.Shard){
		func(s *api.Shard) { s.Id++ },
		func(s *api.Shard) { s.Epoch++ },
		func(s *api.Shard) { s.Frozen = true },
		func(s *api.Shard) { s.Table = nil },
		func(s *api.Shard) { s.Table = s.Table[:2] },
		func(s *api.Shard) { s.Table = s.Table[1:] },
		func(s *api.Shard) { s.Table = append(s.Table, rec("z", "", 1)) },
		func(s *api.Shard) { s.Table[0], s.Table[1] = s.Table[1], s.Table[0] },
		func(s *api.Shard) { s.Table[1].Key += "x" },
		func(s *api.Shard) { s.Table[1].Value += "x" },
		func(s *api.Shard) { s.Table[1].Rev++ },
		func(s *api.Shard) { s.Table[0].Life++ },
		func(s *api.Shard) { s.Table[0].Note = "" },
		func(s *api.Shard) { s.Table[0].Extra[1].Data = "y" },
		func(s *api.Shard) { s.Table[0].Extra = s.Table[0].Extra[:2] },
		func(s *api.Shard) { s.Cache = nil },
		func(s *api.Shard) { s.Cache = s.Cache[:2] },
		func(s *api.Shard) { s.Cache = s.Cache[1:] },
		func(s *api.Shard) { s.Cache = append(s.Cache, last(40, 1, rep(1, ""))) },
		func(s *api.Shard) { s.Cache[0], s.Cache[1] = s.Cache[1], s.Cache[0] },
		func(s *api.Shard) { s.Cache[0].Client++ },
		func(s *api.Shard) { s.Cache[0].Id++ },
		func(s *api.Shard) { s.Cache[0].Reply.Errno = 70 },
		func(s *api.Shard) { s.Cache[0].Reply.Rev++ },
		func(s *api.Shard) { s.Cache[0].Reply.Value = "" },
		func(s *api.Shard) { s.Cache[1].Reply.Keys = s.Cache[1].Reply.Keys[:2] },
		func(s *api.Shard) { s.Cache[1].Reply.Keys[1] = "y" },
	} {
		if s := based(change); Same(s, base()) || Same(base(), s) {
			t.Errorf("difference %d is not seen", i)
		}
	}
	if !Same(base(), base()) || !Same(api.Shard{Id: 3}, api.Shard{Id: 3, Table: []api.Record{}, Cache: []api.Done{}}) {
		t.Error("a copy, or no lists and empty ones, are not the same")
	}
}

// N2: written out: what each call is replied, and what it changes.
func TestAsk(t *testing.T) {
	first := func(table []api.Record, d api.Done) api.Shard { // base behind client 10's call
		return based(func(s *api.Shard) { s.Table, s.Cache[0] = table, d })
	}
	with := func(i int, r api.Record) []api.Record {
		l := records(3)
		l[i] = r
		return l
	}
	marked := laden("k00", "vk00", 2)
	marked.Life, marked.Note = 9, "m"
	valued := laden("k00", "y", 2)
	for _, c := range []struct {
		o    api.Op
		r    api.Reply
		want []api.Record
	}{
		{put("k01", "y"), rep(3, ""), with(1, rec("k01", "y", 3))},
		{put("k00", "y"), rep(2, ""), with(0, valued)},
		{put("a", "x"), rep(1, ""), append([]api.Record{rec("a", "x", 1)}, records(3)...)},
		{put("z", ""), rep(1, ""), append(records(3), rec("z", "", 1))},
		{remove("k01"), rep(2, ""), slices.Delete(records(3), 1, 2)},
		{remove("z"), fails(api.ErrNone), records(3)},
		{cas("k01", "y", 2), rep(3, ""), with(1, rec("k01", "y", 3))},
		{cas("k01", "y", 1), api.Reply{Errno: api.ErrRev, Rev: 2}, records(3)},
		{cas("z", "y", 1), fails(api.ErrRev), records(3)},
		{cas("z", "y", 0), rep(1, ""), append(records(3), rec("z", "y", 1))},
	} {
		for v := 1; v <= 2; v++ {
			checkAsk(t, v, base(), call(10, 101, c.o), first(c.want, last(10, 101, c.r)), c.r, true)
			checkAsk(t, v, base(), call(10, most, c.o), first(c.want, last(10, most, c.r)), c.r, true)
		}
	}
	checkAsk(t, 2, base(), call(10, 101, mark("k00", 9, "m")), first(with(0, marked), last(10, 101, rep(2, ""))), rep(2, ""), true)
	checkAsk(t, 2, base(), call(10, 101, mark("z", 9, "m")), first(records(3), last(10, 101, fails(api.ErrNone))), fails(api.ErrNone), true)
	checkRefused(t, 1, base(), call(10, 101, mark("k00", 9, "m")), fails(api.ErrVersion))
}

// N2: a table that is full: its error is a reply as any other one, and is kept.
func TestAskFullTable(t *testing.T) {
	for v := 1; v <= 2; v++ {
		for n, r := range map[int]api.Reply{19: rep(1, ""), 20: fails(api.ErrFull)} {
			s := based(func(s *api.Shard) { s.Table = records(n) })
			want := deep(s)
			want.Cache[0] = last(10, 101, r)
			if n == 19 {
				want.Table = append(want.Table, rec("z", "y", 1))
			}
			checkAsk(t, v, s, call(10, 101, put("z", "y")), want, r, true)
			u, _, _ := Ask(v, s, call(10, 101, put("z", "y")))
			checkRefused(t, v, u, call(10, 101, put("z", "y")), r)
			checkRefused(t, v, u, call(10, 101, remove("k03")), r)
		}
		s := based(func(s *api.Shard) { s.Table[1].Rev = most })
		want := deep(s)
		want.Cache[0] = last(10, 101, fails(api.ErrFull))
		checkAsk(t, v, s, call(10, 101, put("k01", "y")), want, fails(api.ErrFull), true)
	}
}

// N2: a call that was done is replied as it was; an older one is none; a newer one is done. Only the client and its Id count.
func TestAskOnce(t *testing.T) {
	for v := 1; v <= 2; v++ {
		for _, frozen := range []bool{false, true} {
			s := based(func(s *api.Shard) { s.Frozen, s.Cache = frozen, replies(8) })
			for i, d := range s.Cache {
				for _, o := range []api.Op{put("k01", "y"), put("z", "y"), remove("k00"), remove("z"), cas("k01", "y", 2), cas("k01", "y", 9)} {
					checkRefused(t, v, s, call(d.Client, d.Id, o), replies(8)[i].Reply)
					checkRefused(t, v, s, call(d.Client, d.Id-1, o), fails(api.ErrStale))
					checkRefused(t, v, s, call(d.Client, 1, o), fails(api.ErrStale))
					if frozen {
						checkRefused(t, v, s, call(d.Client, d.Id+1, o), fails(api.ErrFrozen))
						continue
					}
					checkWords(t, v, s, call(d.Client, d.Id+1, o))
					if _, _, changed := Ask(v, s, call(d.Client, d.Id+1, o)); !changed {
						t.Errorf("a new call of client %d changes nothing", d.Client)
					}
				}
			}
		}
	}
}

// N2: reads change nothing, are not kept, and hang neither on what was replied, nor on whether the shard is frozen, nor on whether there is room for a client.
func TestAskReads(t *testing.T) {
	for v := 1; v <= 2; v++ {
		for _, frozen := range []bool{false, true} {
			for _, n := range []int{0, 3, 7, 8} {
				s := based(func(s *api.Shard) { s.Frozen, s.Table, s.Cache = frozen, records(7), replies(n) })
				for _, client := range []int{1, 10, 20, 80, 85, 1000} {
					for _, id := range []int{1, 99, 100, 101, 200, 800, most} {
						checkRefused(t, v, s, call(client, id, get("k01")), rep(2, "vk01"))
						checkRefused(t, v, s, call(client, id, get("z")), fails(api.ErrNone))
						checkRefused(t, v, s, call(client, id, scan("", "")), rep(0, "", "k00", "k01", "k02", "k03", "k04"))
						checkRefused(t, v, s, call(client, id, scan("k01", "k03")), rep(0, "", "k01", "k02"))
						checkRefused(t, v, s, call(client, id, scan("z", "")), rep(0, ""))
					}
				}
			}
		}
	}
}

// N2: 7 and 8 clients: a new one at each place, and one that there is.
func TestAskRoom(t *testing.T) {
	for v := 1; v <= 2; v++ {
		for i := range 9 {
			seven := based(func(s *api.Shard) { s.Cache = replies(7) })
			eight := based(func(s *api.Shard) { s.Cache = replies(8) })
			if i < 8 {
				want := based(func(s *api.Shard) {
					s.Table[1] = rec("k01", "y", 3)
					s.Cache = slices.Insert(replies(7), i, last(10*i+5, 1, rep(3, "")))
				})
				checkAsk(t, v, seven, call(10*i+5, 1, put("k01", "y")), want, rep(3, ""), true)
				want = based(func(s *api.Shard) {
					s.Table[1] = rec("k01", "y", 3)
					s.Cache = replies(8)
					s.Cache[i] = last(10*i+10, 100*i+101, rep(3, ""))
				})
				checkAsk(t, v, eight, call(10*i+10, 100*i+101, put("k01", "y")), want, rep(3, ""), true)
			}
			for _, o := range []api.Op{put("k01", "y"), put("z", "y"), remove("k01"), remove("z"), cas("z", "", 5)} {
				checkRefused(t, v, eight, call(10*i+5, 1, o), fails(api.ErrFull))
				checkRefused(t, v, eight, call(10*i+5, most, o), fails(api.ErrFull))
			}
		}
	}
}

// N2: written out, each edge of a call, and of a version, alone.
func TestAskEdges(t *testing.T) {
	none := api.Shard{Id: 2, Epoch: 5}
	asks := func(v int, c api.Call, want api.Errno) {
		t.Helper()
		u, r, changed := Ask(v, none, c)
		if r.Errno != want || changed != (want == api.OK) || changed == equal(u, none) {
			t.Errorf("Ask(%d, %s) = %s, %v; want %d", v, say(c), say(r), changed, want)
		}
		checkWords(t, v, none, c)
		c.Op = scan("", "") // one that reads is held to the same
		if _, r, _ := Ask(v, none, c); r.Errno != want {
			t.Errorf("Ask(%d, %s) = %s; want %d", v, say(c), say(r), want)
		}
	}
	for v, want := range map[int]api.Errno{math.MinInt: 1, -1: 1, 0: 1, 1: 0, 2: 0, 3: 1, 4: 1, math.MaxInt: 1} {
		asks(v, call(1, 1, put("a", "x")), want)
	}
	for client, want := range map[int]api.Errno{math.MinInt: 1, -1: 1, 0: 1, 1: 0, 2: 0, 1000: 0, 1001: 1, math.MaxInt: 1} {
		asks(1, call(client, 1, put("a", "x")), want)
		asks(2, call(client, most, put("a", "x")), want)
	}
	for id, want := range map[int]api.Errno{math.MinInt: 1, -1: 1, 0: 1, 1: 0, 2: 0, most: 0, most + 1: 1, math.MaxInt: 1} {
		asks(1, call(1, id, put("a", "x")), want)
		asks(2, call(1000, id, put("a", "x")), want)
	}
	for _, n := range []int{math.MinInt, -1, 0, 1, 2, 3, 4, 5, 6, 7, 8, most, most + 1, math.MaxInt} {
		c, want := call(1, 1, put("a", "x")), api.ErrShard
		if c.Shard = n; n == 2 {
			want = api.OK
		}
		asks(1, c, want)
		c, want = call(1, 1, put("a", "x")), api.ErrEpoch
		if c.Epoch = n; n == 5 {
			want = api.OK
		}
		asks(2, c, want)
	}
}

// wrongOps are those that Check does not let be, by either version.
func wrongOps() []api.Op {
	return []api.Op{
		{}, {Kind: 7, Key: "a"}, {Kind: -1, Key: "a"}, {Kind: 256 + 2, Key: "a"},
		put("", "x"), get(""), remove(""), cas("", "x", 0), mark("", 1, ""),
		put(text(17), "x"), get(text(17)), scan(text(17), ""), scan("", text(17)),
		put("a", text(201)), cas("a", "x", -1), cas("a", "x", most+1), mark("a", -1, ""), mark("a", most+1, ""), mark("a", 1, text(41)),
	}
}

// N2: ops that may not be, by either version, at each shard: nothing is done, whatever was replied.
func TestAskWrongOps(t *testing.T) {
	for _, s := range shards() {
		for _, o := range wrongOps() {
			for _, c := range []api.Call{call(10, 100, o), call(10, 101, o), call(10, 99, o), call(15, 1, o)} {
				checkRefused(t, 1, s, of(s, c), fails(api.ErrArg))
				checkRefused(t, 2, s, of(s, c), fails(api.ErrArg))
			}
		}
		for _, c := range []api.Call{call(10, 100, mark("k00", 1, "")), call(10, 101, mark("k00", 1, "")), call(10, 99, mark("k00", 1, "")), call(15, 1, mark("z", 1, ""))} {
			checkRefused(t, 1, s, of(s, c), fails(api.ErrVersion))
		}
	}
}

// asking is a call, and what is asked.
type asking struct {
	v int
	s api.Shard
	c api.Call
}

// fault is something that hinders a call, and what is replied then.
type fault struct {
	name  string
	r     api.Reply
	spoil func(a *asking)
}

// faults hinder a new call of client 10, in N2's order.
func faults() []fault {
	wrong := func(name string, spoil func(a *asking)) fault { return fault{name, fails(api.ErrArg), spoil} }
	return []fault{
		wrong("a shard that is not right", func(a *asking) { a.s.Table[0], a.s.Table[1] = a.s.Table[1], a.s.Table[0] }),
		wrong("a cache that is not right", func(a *asking) { a.s.Cache[1].Client = 30 }),
		wrong("no such version", func(a *asking) { a.v = 3 }),
		wrong("no such client", func(a *asking) { a.c.Client = 1001 }),
		wrong("no such call", func(a *asking) { a.c.Id = 0 }),
		{"another shard", fails(api.ErrShard), func(a *asking) { a.c.Shard++ }},
		{"another epoch", fails(api.ErrEpoch), func(a *asking) { a.c.Epoch-- }},
		wrong("no such op", func(a *asking) { a.c.Op.Value = text(201) }),
		{"an op of version 2", fails(api.ErrVersion), func(a *asking) { a.v, a.c.Op.Kind = 1, api.OpMark }},
		{"a call that was done", replies(1)[0].Reply, func(a *asking) { a.c.Client, a.c.Id = 10, 100 }},
		{"an older call", fails(api.ErrStale), func(a *asking) { a.c.Client, a.c.Id = 10, 99 }},
		{"a frozen shard", fails(api.ErrFrozen), func(a *asking) { a.s.Frozen = true }},
		{"no room", fails(api.ErrFull), func(a *asking) { a.s.Cache, a.c.Client = replies(8), 15 }},
		{"no such key", fails(api.ErrNone), func(a *asking) { a.c.Op.Kind, a.c.Op.Key = api.OpDelete, "z" }},
	}
}

// N2: all faults, alone, in pairs, and all others of them together: the first one is told. The last one alone is a reply that is kept.
func TestAskOrder(t *testing.T) {
	all := faults()
	for set := range 1 << len(all) {
		a := asking{2, base(), call(10, 101, put("k01", "y"))}
		first, names := -1, ""
		for i := len(all) - 1; i >= 0; i-- { // the first one at last, so that its client and its Id are asked
			if set>>i&1 == 1 {
				all[i].spoil(&a)
				first, names = i, all[i].name+"; "+names
			}
		}
		want := rep(3, "")
		if first >= 0 {
			want = all[first].r
		}
		changes := first < 0 || first == len(all)-1
		in := deep(a.s)
		u, r, changed := Ask(a.v, a.s, a.c)
		if !equalReply(r, want) || changed != changes || changed == equal(u, in) || !equal(a.s, in) {
			t.Errorf("%s%s, %v; want %s, %v", names, say(r), changed, say(want), changes)
		}
		if set%7 == 0 || set < 256 {
			checkWords(t, a.v, a.s, a.c)
		}
	}
}

// N2: shards that are not right are as they were, whatever is asked.
func TestAskWrongShards(t *testing.T) {
	for _, s := range wrongShards() {
		for v := 0; v <= 3; v++ {
			for _, o := range []api.Op{put("k01", "y"), get("k01"), remove("z"), scan("", ""), {}} {
				checkRefused(t, v, s, of(s, call(10, 101, o)), fails(api.ErrArg))
				checkRefused(t, v, s, of(s, call(10, 100, o)), fails(api.ErrArg))
				checkRefused(t, v, s, call(1, 1, o), fails(api.ErrArg))
			}
		}
	}
}

// N2: all calls at all shards.
func TestAskByTheWords(t *testing.T) {
	told := map[api.Errno]int{}
	for _, s := range shards() {
		clients, ids := []int{1, 10, 15, 1000}, []int{1, most}
		for _, d := range s.Cache {
			clients, ids = append(clients, d.Client), append(ids, d.Id, max(d.Id-1, 1), min(d.Id+1, most))
		}
		ops := []api.Op{put("new", "x"), get("new"), remove("new"), cas("new", "x", 0), cas("new", "x", 1), mark("new", 1, "m"), scan("", ""), scan("k01", "k02")}
		for _, r := range s.Table {
			ops = append(ops, put(r.Key, "x"), get(r.Key), remove(r.Key), cas(r.Key, text(200), r.Rev), cas(r.Key, "x", max(r.Rev-1, 0)), mark(r.Key, r.Life, r.Note), mark(r.Key, most, text(40)), scan(r.Key, ""))
		}
		for i, client := range clients {
			for k, id := range ids {
				for n := range 3 {
					o := ops[(i*7+k*3+n*5)%len(ops)]
					c := of(s, call(client, id, o))
					_, r, _ := wantAsk(n%2+1, s, c)
					told[r.Errno]++
					checkWords(t, n%2+1, s, c)
				}
			}
		}
	}
	for _, e := range []api.Errno{0, 22, 50, 70, 71, 81, 82} {
		if told[e] < 5 {
			t.Errorf("%d is told %d times", e, told[e])
		}
	}
}

// N2: what is handed in is not kept: what is written into it later changes nothing of what came out, and what is behind a call that changes nothing of the table has a table of its own, too.
func TestNotKept(t *testing.T) {
	for _, o := range []api.Op{put("k01", "y"), put("z", "y"), remove("z"), remove("k00"), cas("k00", "y", 9)} {
		s := based(func(s *api.Shard) { s.Cache = replies(5) })
		u, r, changed := Ask(2, s, call(10, 101, o))
		was := deep(u)
		overwriteAll(s)
		if !equal(u, was) || !changed {
			t.Errorf("%s: %s, %s; want %s", say(o), say(u), say(r), say(was))
		}
	}
	s := base()
	_, r, _ := Ask(2, s, call(20, 200, put("k01", "y")))
	overwriteAll(s)
	if !equalReply(r, replies(2)[1].Reply) {
		t.Errorf("the reply that was told is written into: %s", say(r))
	}
}

// N2: lists that share their memory: each has its own behind a call that changes something.
func TestSharedLists(t *testing.T) {
	extra := []api.Field{{Tag: 6, Data: "a"}, {Tag: 7, Data: "b"}}
	keys := []string{"a", "b", "c"}
	s := api.Shard{Id: 2, Epoch: 5, Table: []api.Record{{Key: "a", Rev: 1, Extra: extra}, {Key: "b", Rev: 1, Extra: extra[:1]}, {Key: "c", Rev: 1, Extra: extra[1:]}}, Cache: []api.Done{last(1, 1, rep(0, "", keys...)), last(2, 1, rep(0, "", keys[:2]...))}}
	for _, o := range []api.Op{put("a", "x"), remove("b"), remove("z"), put("bb", "x")} {
		for client := 1; client <= 3; client++ {
			u, _, changed := Ask(2, s, call(client, 2, o))
			if !changed || overwriteAll(u) || extra[0].Data+extra[1].Data != "ab" || keys[0]+keys[1]+keys[2] != "abc" {
				t.Errorf("%s of client %d: a list is given out that is another one's, too", say(o), client)
			}
		}
	}
}

// N5: a call that writes is done once: asked again, right behind it, behind reads, behind others' calls, frozen and thawed, by either version, its reply stays, and nothing is changed.
func TestDoneOnce(t *testing.T) {
	for _, o := range []api.Op{put("k01", "y"), put("z", "y"), remove("k01"), remove("z"), cas("k01", "y", 2), cas("k01", "y", 1), cas("z", "y", 4)} {
		for v := 1; v <= 2; v++ {
			c := call(20, 201, o)
			s, r, changed := Ask(v, base(), c)
			if !changed {
				t.Fatalf("%s is not done", say(o))
			}
			again := func(behind string) {
				t.Helper()
				for w := 1; w <= 2; w++ {
					u, told, changed := Ask(w, s, c)
					if !equalReply(told, r) || changed || !equal(u, s) {
						t.Errorf("%s, %s, again: %s, %v; want %s", say(o), behind, say(told), changed, say(r))
					}
				}
			}
			again("right behind it")
			for _, other := range []api.Call{call(20, 300, get("k01")), call(10, 101, put("z", "other")), call(15, 1, remove("k01")), call(30, 301, put("k01", "other")), call(20, 202, scan("", ""))} {
				s, _, _ = Ask(v, s, other)
				again("behind others")
			}
			s.Frozen = true
			again("frozen")
			s.Frozen = false
			again("thawed")
			s, _, changed = Ask(v, s, call(20, 202, put("k02", "later")))
			if _, told, is := Ask(v, s, c); !changed || is || told.Errno != api.ErrStale {
				t.Errorf("%s, behind a later one: %s", say(o), say(told))
			}
		}
	}
}

// way keeps what one remembers who makes calls one behind the other: the table, and each client's last call.
type way struct {
	shard api.Shard
	table []api.Record
	last  map[int]api.Done
	done  int
	again int
}

// ask makes a call, and holds what is told against what is remembered.
func (w *way) ask(t *testing.T, v int, c api.Call) {
	t.Helper()
	d, was := w.last[c.Client]
	behind, r := table.Do(w.table, c.Op)
	changes := false
	switch {
	case !table.Writes(c.Op):
	case was && c.Id == d.Id:
		r = d.Reply
		w.again++
	case was && c.Id < d.Id:
		r = fails(api.ErrStale)
	case w.shard.Frozen:
		r = fails(api.ErrFrozen)
	case !was && len(w.last) == 8:
		r = fails(api.ErrFull)
	default:
		w.table, w.last[c.Client], changes = behind, last(c.Client, c.Id, r), true
		w.done++
	}
	u, got, changed := Ask(v, w.shard, c)
	if !equalReply(got, r) || changed != changes || !Right(u) || !slices.EqualFunc(u.Table, w.table, equalRecord) || len(u.Cache) != len(w.last) || slices.ContainsFunc(u.Cache, func(d api.Done) bool { return !equalDone(d, w.last[d.Client]) }) {
		t.Fatalf("Ask(%d, %s, %s) = %s, %s, %v; want %s, %v", v, say(w.shard), say(c), say(u), say(got), changed, say(r), changes)
	}
	w.shard = u
}

// N5: all ways of four calls, each asked twice at once, or not.
func TestAllWays(t *testing.T) {
	var all []api.Call
	for client := 1; client <= 2; client++ {
		for id := 1; id <= 2; id++ {
			all = append(all, call(client, id, put("a", fmt.Sprint(client, id))), call(client, id, remove("a")))
		}
		all = append(all, call(client, 1, cas("a", "c", 1)), call(client, 2, get("a")))
	}
	for i := range len(all) * len(all) * len(all) * len(all) {
		w := way{shard: api.Shard{Id: 2, Epoch: 5}, last: map[int]api.Done{}}
		for k := range 4 {
			c := all[i%len(all)]
			w.ask(t, 1, c)
			if (i+k)%3 == 0 {
				w.ask(t, 2, c)
			}
			i /= len(all)
		}
	}
}

// N5: long ways of ten clients, of whom eight have room; the shard is frozen and thawed, and written to bytes and read, between.
func TestLongWays(t *testing.T) {
	for seed := range uint64(6) {
		x := seed
		w := way{shard: api.Shard{Id: 2, Epoch: 5}, last: map[int]api.Done{}}
		for n := range 600 {
			key, v := fmt.Sprint("k", next(&x)%24), next(&x)%2+1
			o := []api.Op{put(key, fmt.Sprint("v", n)), get(key), remove(key), cas(key, "c", next(&x)%3), scan(key, ""), mark(key, n, "m")}[next(&x)%(4+v)]
			w.ask(t, v, call(next(&x)%10+1, n/10+next(&x)%8+1, o))
			switch next(&x) % 20 {
			case 0:
				w.shard.Frozen = true
			case 1, 2, 3:
				w.shard.Frozen = false
			case 4, 5:
				s, _ := Encode(v, w.shard)
				w.shard, _ = Decode(v, s)
			}
		}
		if w.done < 100 || w.again < 10 {
			t.Errorf("%d calls were done, and %d asked again", w.done, w.again)
		}
	}
}

func FuzzAsk(f *testing.F) {
	f.Add(1, 2, 5, 10, 101, 2, "k01", "y", 0, "", uint8(3), uint8(3), false)
	f.Add(2, 2, 5, 15, 1, 5, "k00", "", 7, "note", uint8(20), uint8(8), true)
	f.Add(2, 1, 4, 0, 0, 9, "", "", -1, "", uint8(21), uint8(9), false)
	f.Fuzz(func(t *testing.T, v, id, epoch, client, number, kind int, key, value string, n int, note string, has, kept uint8, frozen bool) {
		s := api.Shard{Id: 2, Epoch: 5, Frozen: frozen, Table: records(int(has % 24)), Cache: replies(int(kept % 10))}
		o := api.Op{Kind: kind, Key: key, Value: value, Rev: n, Life: n, Note: note}
		checkWords(t, v, s, api.Call{Shard: id, Epoch: epoch, Client: client, Id: number, Op: o})
		for w := 1; w <= 2; w++ {
			for k := number - 1; k <= number+1; k++ {
				checkWords(t, w, s, call(client, k, o))
				checkWords(t, w, s, call(10*(client&7)+10, k, o))
			}
		}
	})
}
