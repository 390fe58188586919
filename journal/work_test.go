package journal

import (
	"fmt"
	"math"
	"slices"
	"strings"
	"testing"

	"careen/api"
	"careen/shard"
)

// lists are right: none, one, all eight, and Ids that are not next to one another.
func lists() [][]api.Shard {
	return [][]api.Shard{
		nil, {}, somes(0), somes(2), somes(7), {bare(3)}, somes(1, 2), somes(0, 7), somes(2, 4, 6), somes(1, 3, 5, 7),
		somes(0, 1, 2, 3, 4, 5, 6), somes(1, 2, 3, 4, 5, 6, 7), somes(0, 1, 2, 3, 4, 5, 6, 7), {bare(0), some(4), great(6, 2, 0)},
	}
}

// wrongLists are not: of one of the shards, at each place, something may not be, or the Ids do not rise.
func wrongLists() [][]api.Shard {
	l := [][]api.Shard{
		{{}}, {{Id: 2}}, somes(2, 2), somes(2, 1), somes(0, 1, 1), somes(0, 0, 1), somes(1, 0, 2), somes(0, 2, 1), somes(7, 0), somes(0, 1, 2, 3, 4, 5, 7, 6), somes(7, 6, 5, 4, 3, 2, 1, 0),
		somes(0, 1, 2, 3, 4, 5, 6, 7, 7), somes(0, 1, 2, 3, 4, 5, 6, 7, 0), somes(-1, 0), somes(0, 8), somes(1, 2, 3, 4, 5, 6, 7, 8), make([]api.Shard, 20), somes(2, 2, 2, 2, 2, 2, 2, 2, 2, 2),
	}
	for i := range 4 {
		for _, spoil := range []func(s *api.Shard){
			func(s *api.Shard) { s.Id = -1 },
			func(s *api.Shard) { s.Id += 8 },
			func(s *api.Shard) { s.Epoch = 0 },
			func(s *api.Shard) { s.Epoch = most + 1 },
			func(s *api.Shard) { s.Table[0].Key = "c" },
			func(s *api.Shard) { s.Table[1].Rev = -1 },
			func(s *api.Shard) { s.Table[0].Extra[0].Tag = 4 },
			func(s *api.Shard) { s.Table = make([]api.Record, 21) },
			func(s *api.Shard) { s.Cache[1].Client = 10 },
			func(s *api.Shard) { s.Cache[0].Reply.Keys[1] = long(17) },
			func(s *api.Shard) { s.Cache = make([]api.Done, 9) },
		} {
			all := somes(0, 2, 4, 6)
			spoil(&all[i])
			l = append(l, all)
		}
	}
	return l
}

// kinds are those of entries, and of none.
func kinds() []int {
	return []int{math.MinInt, -1, 0, 1, 2, 3, 4, 5, 6, 7, 9, 10, 200, 255, 256, 257, 1<<32 + 1, math.MaxInt}
}

// entries are of all kinds, for all shards and for none, with Data of many kinds, by either version.
func entries() []api.Entry {
	var l []api.Entry
	for _, id := range []int{0, 1, 2, 5, 7, 8, -1, 258, math.MinInt, math.MaxInt} {
		for kind := range 7 {
			datas := []string{"", "x", "\x00", wantCall(ask(2, 30, 1, put("a", "x"))), encoded(1, bare(2)), encoded(2, bare(2))}
			if id >= 0 && id < 8 {
				datas = append(datas, encoded(1, some(id)), encoded(2, some(id)), wantCall(ask(id, 10, 101, put("c", "x"))))
			}
			for _, data := range datas {
				l = append(l, api.Entry{Kind: kind, Shard: id, Data: data})
			}
		}
	}
	return l
}

// O2: written out, each entry.
func TestApply(t *testing.T) {
	with := func(change func(s *api.Shard)) []api.Shard {
		l := somes(0, 2, 5)
		change(&l[1])
		return l
	}
	frozen := with(func(s *api.Shard) { s.Frozen = true })
	behind := with(func(s *api.Shard) {
		s.Table = append(s.Table, api.Record{Key: "c", Value: "x", Rev: 1})
		s.Cache[0] = api.Done{Client: 10, Id: 101, Reply: api.Reply{Rev: 1}}
	})
	for v := 1; v <= 2; v++ {
		for i, c := range []struct {
			l    []api.Shard
			e    api.Entry
			want []api.Shard
			f    api.Errno
		}{
			{nil, adopts(v, some(2)), somes(2), 0},
			{somes(0, 5), adopts(v, some(2)), somes(0, 2, 5), 0},
			{somes(0, 2, 5), adopts(v, bare(2)), []api.Shard{some(0), bare(2), some(5)}, 0},
			{somes(0, 5), adopts(v, frozen[1]), frozen, 0},
			{somes(0, 2, 5), drops(2), somes(0, 5), 0},
			{somes(2), drops(2), nil, 0},
			{somes(0, 5), drops(2), somes(0, 5), 83},
			{somes(0, 2, 5), freezes(2), frozen, 0},
			{frozen, freezes(2), frozen, 0},
			{frozen, thaws(2), somes(0, 2, 5), 0},
			{somes(0, 2, 5), thaws(2), somes(0, 2, 5), 0},
			{somes(0, 5), thaws(2), somes(0, 5), 83},
			{somes(0, 5), freezes(2), somes(0, 5), 83},
			{somes(0, 2, 5), calls(ask(2, 10, 101, put("c", "x"))), behind, 0},
			{behind, calls(ask(2, 10, 101, put("c", "x"))), behind, 0},
			{behind, calls(ask(2, 10, 100, put("c", "y"))), behind, 0},
			{frozen, calls(ask(2, 10, 101, put("c", "x"))), frozen, 0},
			{somes(0, 5), calls(ask(2, 10, 101, put("c", "x"))), somes(0, 5), 83},
			{nil, calls(ask(2, 10, 101, put("c", "x"))), nil, 83},
			{somes(0, 2, 5), api.Entry{Kind: 3, Shard: 5, Data: wantCall(ask(2, 10, 101, put("c", "x")))}, somes(0, 2, 5), 11},
			{somes(0, 2, 5), api.Entry{Kind: 1, Shard: 5, Data: encoded(v, some(2))}, somes(0, 2, 5), 11},
			{somes(0, 2, 5), adopts(3-v, some(2)), somes(0, 2, 5), 11},
			{somes(0, 2, 5), api.Entry{Kind: 2, Shard: 2, Data: "\x00"}, somes(0, 2, 5), 1},
			{somes(0, 2, 5), api.Entry{Kind: 4, Shard: 2, Data: "\x00"}, somes(0, 2, 5), 1},
			{somes(0, 2, 5), api.Entry{Kind: 5, Shard: 2, Data: "\x00"}, somes(0, 2, 5), 1},
			{somes(0, 2, 5), api.Entry{Kind: 0, Shard: 2}, somes(0, 2, 5), 1},
			{somes(0, 2, 5), api.Entry{Kind: 6, Shard: 2}, somes(0, 2, 5), 1},
		} {
			checkApply(t, v, c.l, c.e, c.want, c.f)
			if f := checkWords(t, v, c.l, c.e); f != c.f {
				t.Errorf("%d by the words is %d; want %d", i, f, c.f)
			}
		}
	}
}

// O2: versions that are none, and shards that may not be, whatever the entry.
func TestApplyRefuses(t *testing.T) {
	for _, e := range entries() {
		for _, v := range []int{math.MinInt, -1, 0, 3, 4, 255, 257, math.MaxInt} {
			checkRefused(t, v, somes(0, 2, 5), e, api.ErrArg)
		}
	}
	for v := 0; v <= 3; v++ {
		for _, l := range wrongLists() {
			for _, e := range []api.Entry{adopts(1, some(2)), adopts(2, some(2)), drops(2), drops(9), freezes(2), thaws(2), calls(ask(2, 10, 101, put("c", "x"))), {Kind: 1, Data: "x"}, {Kind: 3, Data: "x"}, {}} {
				checkRefused(t, v, l, e, api.ErrArg)
			}
		}
	}
	many := make([]api.Shard, 100000)
	for i := range many {
		many[i] = bare(i)
	}
	checkRefused(t, 1, many, drops(2), api.ErrArg)
}

// O2: kinds that are none, whatever else there is.
func TestApplyKinds(t *testing.T) {
	for _, kind := range kinds() {
		for _, id := range []int{-1, 0, 2, 8} {
			for _, data := range []string{"", "x", encoded(1, some(2)), encoded(2, some(2)), wantCall(ask(2, 10, 101, put("c", "x")))} {
				for v := 1; v <= 2; v++ {
					f := checkWords(t, v, somes(1, 2, 3), api.Entry{Kind: kind, Shard: id, Data: data})
					if (kind < 1 || kind > 5) && f != api.ErrArg {
						t.Errorf("kind %d: %d", kind, f)
					}
				}
			}
		}
	}
}

// O2: all entries to all lists.
func TestApplyByTheWords(t *testing.T) {
	told := map[api.Errno]int{}
	for _, l := range lists() {
		for _, e := range entries() {
			for v := 1; v <= 2; v++ {
				told[checkWords(t, v, l, e)]++
			}
		}
	}
	for _, f := range []api.Errno{0, 1, 11, 83} {
		if told[f] < 100 {
			t.Errorf("%d is told %d times", f, told[f])
		}
	}
}

// O2: a shard's place, in each list of Ids that rise: it comes there, another one comes in its place, it goes, freezes, thaws, is asked; the others are as they were.
func TestApplyPlaces(t *testing.T) {
	for set := range 256 {
		var ids []int
		for id := range 8 {
			if set>>id&1 == 1 {
				ids = append(ids, id)
			}
		}
		v := set%2 + 1
		for id := range 8 {
			there := slices.Contains(ids, id)
			all := slices.Clone(ids)
			if !there {
				all = append(all, id)
				slices.Sort(all)
			}
			with := func(s api.Shard) []api.Shard {
				l := somes(all...)
				l[slices.Index(all, id)] = s
				return l
			}
			checkApply(t, v, somes(ids...), adopts(v, bare(id)), with(bare(id)), 0)
			without := slices.DeleteFunc(slices.Clone(ids), func(n int) bool { return n == id })
			frozen := some(id)
			frozen.Frozen = true
			c := ask(id, 20, 8, put("b", "x"))
			asked, _, _ := shard.Ask(v, some(id), c)
			if there {
				checkApply(t, v, somes(ids...), drops(id), somes(without...), 0)
				checkApply(t, v, somes(ids...), freezes(id), with(frozen), 0)
				checkApply(t, v, with(frozen), thaws(id), somes(ids...), 0)
				checkApply(t, v, somes(ids...), calls(c), with(asked), 0)
			} else {
				for _, e := range []api.Entry{drops(id), freezes(id), thaws(id), calls(c)} {
					checkRefused(t, v, somes(ids...), e, api.ErrShard)
				}
			}
		}
	}
}

// O2: Data of a shard that is cut off at each place, has more behind it, is changed at each byte, is another shard's, another version's.
func TestApplyAdoptData(t *testing.T) {
	l := somes(0, 2, 5)
	for v := 1; v <= 2; v++ {
		all := encoded(v, some(2))
		e := func(data string) api.Entry { return api.Entry{Kind: 1, Shard: 2, Data: data} }
		checkApply(t, v, l, e(all), l, 0)
		for k := range len(all) {
			checkRefused(t, v, l, e(all[:k]), api.ErrForm)
			for _, b := range []byte{0, 1, 2, 127, 128, 255, all[k] + 1, all[k] ^ 1, all[k] ^ 128} {
				changed := all[:k] + string([]byte{b}) + all[k+1:]
				if f := checkWords(t, v, l, e(changed)); v == 2 && f == 0 && changed != all {
					t.Errorf("%q is adopted", changed)
				}
			}
		}
		for _, more := range []string{"\x00", "s", "t", "\xff", all, long(5000)} {
			checkRefused(t, v, l, e(all+more), api.ErrForm)
			checkRefused(t, v, l, e(more+all), api.ErrForm)
		}
		for _, id := range []int{-1, 0, 1, 3, 5, 7, 8, 258, math.MinInt, math.MaxInt} {
			checkRefused(t, v, l, api.Entry{Kind: 1, Shard: id, Data: all}, api.ErrForm)
		}
		checkRefused(t, v, l, e(encoded(3-v, some(2))), api.ErrForm)
		checkRefused(t, v, l, e(lead(all)), api.ErrForm)
		checkRefused(t, v, l, e(wantCall(ask(2, 10, 101, put("c", "x")))), api.ErrForm)
		fat := great(2, 20, 40) // Data may be longer than a frame's: only what is written is held to that
		checkApply(t, v, l, adopts(v, fat), []api.Shard{some(0), fat, some(5)}, 0)
	}
}

// O2: Data of a call that is cut off at each place, has more behind it, is changed at each byte, is another shard's; whether the shard is there is asked behind that.
func TestApplyCallData(t *testing.T) {
	for v := 1; v <= 2; v++ {
		all := wantCall(ask(2, 10, 101, put("c", "x")))
		for _, l := range [][]api.Shard{somes(0, 2, 5), somes(0, 5), nil} {
			e := func(data string) api.Entry { return api.Entry{Kind: 3, Shard: 2, Data: data} }
			for k := range len(all) {
				checkRefused(t, v, l, e(all[:k]), api.ErrForm)
				for b := range 256 {
					f := checkWords(t, v, l, e(all[:k]+string([]byte{byte(b)})+all[k+1:]))
					if f != api.OK && f != api.ErrForm && f != api.ErrShard {
						t.Errorf("byte %d is %d: %d", k, b, f)
					}
				}
				long := all[:k] + string([]byte{all[k] | 128}) + "\x00" + all[k+1:]
				checkWords(t, v, l, e(long))
			}
			for _, more := range []string{"\x00", "\xff", all, strings.Repeat("x", 5000)} {
				checkRefused(t, v, l, e(all+more), api.ErrForm)
			}
			for _, id := range []int{-1, 0, 1, 3, 5, 7, 8, 258, math.MinInt, math.MaxInt} {
				checkRefused(t, v, l, api.Entry{Kind: 3, Shard: id, Data: all}, api.ErrForm)
			}
			checkRefused(t, v, l, e(encoded(v, some(2))), api.ErrForm)
			checkRefused(t, v, l, e(wantCall(ask(2, 10, 101, put(long(1001), "x")))), api.ErrForm)
			checkRefused(t, v, l, e(wantCall(ask(2, 10, most+1, put("c", "x")))), api.ErrForm)
			checkRefused(t, v, l, e(lead(all)), api.ErrForm)
		}
	}
}

// O2: a call does what chapter 14's Ask does, by the version; one that it refuses changes nothing, and is no error.
func TestApplyCalls(t *testing.T) {
	frozen := some(2)
	frozen.Frozen = true
	full := some(2)
	for len(full.Table) < 20 {
		full.Table = append(full.Table, api.Record{Key: fmt.Sprintf("k%02d", len(full.Table))})
	}
	crowded := some(2)
	for len(crowded.Cache) < 8 {
		crowded.Cache = append(crowded.Cache, last(100+len(crowded.Cache), 1))
	}
	changed := 0
	for _, s := range []api.Shard{bare(2), some(2), frozen, full, crowded} {
		for _, o := range []api.Op{
			put("a", "y"), put("new", "y"), put("", "y"), put("a", long(201)), put(long(17), "y"), put(long(1000), long(1000)),
			{Kind: 1, Key: "a"}, {Kind: 6}, {Kind: 3, Key: "a"}, {Kind: 3, Key: "z"}, {Kind: 4, Key: "a", Rev: 1, Value: "y"}, {Kind: 4, Key: "a", Rev: 2, Value: "y"},
			mark("a"), mark("z"), {}, {Kind: 7, Key: "a"}, {Kind: most, Key: "a"},
		} {
			for _, c := range []api.Call{ask(2, 10, 101, o), ask(2, 10, 100, o), ask(2, 10, 99, o), ask(2, 15, 1, o), ask(2, 0, 1, o), ask(2, 1001, 1, o), ask(2, 10, 0, o), {Shard: 2, Epoch: 4, Client: 10, Id: 101, Op: o}, {Shard: 2, Epoch: 6, Client: 10, Id: 101, Op: o}} {
				for v := 1; v <= 2; v++ {
					want, _, is := shard.Ask(v, s, c)
					if is {
						changed++
					}
					checkApply(t, v, []api.Shard{some(0), s, some(5)}, calls(c), []api.Shard{some(0), want, some(5)}, 0)
				}
			}
		}
	}
	if changed < 50 {
		t.Errorf("%d calls changed something", changed)
	}
}

// O2: several things wrong at once: the first one is told.
func TestApplyOrder(t *testing.T) {
	there, gone := somes(0, 2, 5), somes(0, 5)
	wrong := somes(0, 5, 5)
	for v := 1; v <= 2; v++ {
		for kind, form := range map[int]api.Errno{1: 11, 3: 11, 2: 1, 4: 1, 5: 1, 0: 1, 6: 1} {
			bad := api.Entry{Kind: kind, Shard: 2, Data: "x"}
			checkRefused(t, v, there, bad, form)
			checkRefused(t, v, gone, bad, form)
			checkRefused(t, v, wrong, bad, 1)
			checkRefused(t, 3, there, bad, 1)
			checkRefused(t, 0, wrong, bad, 1)
		}
		other := api.Entry{Kind: 3, Shard: 2, Data: wantCall(ask(5, 10, 101, put("c", "x")))}
		checkRefused(t, v, gone, other, 11)
		checkRefused(t, v, somes(0, 2), other, 11)
		checkRefused(t, v, wrong, other, 1)
		for _, e := range []api.Entry{drops(2), freezes(2), thaws(2), calls(ask(2, 10, 101, put("c", "x")))} {
			checkRefused(t, v, gone, e, 83)
			checkRefused(t, v, wrong, e, 1)
			checkRefused(t, 3, gone, e, 1)
		}
	}
}

// O2: what is handed in is not kept: what is written into it later changes nothing of what came out.
func TestApplyKeepsNothing(t *testing.T) {
	for v := 1; v <= 2; v++ {
		for _, e := range []api.Entry{adopts(v, some(3)), adopts(v, bare(2)), drops(5), freezes(2), thaws(2), calls(ask(2, 10, 101, put("a", "x"))), calls(ask(2, 10, 100, put("a", "x"))), calls(ask(2, 10, 101, api.Op{Kind: 3, Key: "z"}))} {
			l := somes(0, 2, 5)
			got, f := Apply(v, l, e)
			was := deepAll(got)
			overwriteAll(l)
			if !equalAll(got, was) || f != api.OK {
				t.Errorf("%s: %s, %d; want %s", say(e), say(got), f, say(was))
			}
		}
	}
}

// O2: shards that share their lists have lists of their own behind an entry.
func TestApplySharedLists(t *testing.T) {
	s := some(0)
	s.Table[1].Extra = s.Table[0].Extra[:2]
	s.Cache[1].Reply.Keys = s.Cache[0].Reply.Keys[:1]
	l := []api.Shard{s, s, s}
	l[1].Id, l[2].Id = 2, 5
	was := deepAll(l)
	for _, e := range []api.Entry{adopts(1, bare(3)), adopts(1, bare(2)), drops(5), freezes(2), calls(ask(2, 10, 101, put("a", "x"))), calls(ask(2, 10, 101, mark("b"))), calls(ask(2, 10, 100, put("a", "x")))} {
		got, f := Apply(1, l, e)
		if f != api.OK || overwriteAll(got) || !equalAll(l, was) {
			t.Errorf("%s: a list is given out that is another one's, too", say(e))
		}
	}
}

// O2: with spare room behind the list nothing is written there.
func TestApplySpareRoom(t *testing.T) {
	wide := append(somes(0, 2, 5), some(7), some(6), some(4))
	was := deepAll(wide)
	for _, e := range []api.Entry{adopts(1, some(3)), adopts(1, some(7)), drops(0), drops(5), freezes(2)} {
		if _, f := Apply(1, wide[:3], e); f != api.OK || !equalAll(wide, was) {
			t.Errorf("%s: %d, wrote behind the list", say(e), f)
		}
	}
}

func FuzzApply(f *testing.F) {
	f.Add(1, 1, 2, encoded(1, some(2)), uint8(0x25))
	f.Add(2, 1, 3, encoded(2, some(3)), uint8(0x25))
	f.Add(1, 3, 2, wantCall(ask(2, 10, 101, put("c", "x"))), uint8(0xff))
	f.Add(2, 4, 0, "", uint8(1))
	f.Add(3, 6, 9, "x", uint8(0))
	f.Fuzz(func(t *testing.T, v, kind, id int, data string, set uint8) {
		var ids []int
		for id := range 8 {
			if set>>id&1 == 1 {
				ids = append(ids, id)
			}
		}
		checkWords(t, v, somes(ids...), api.Entry{Kind: kind, Shard: id, Data: data})
		checkApplied(t, data)
	})
}
