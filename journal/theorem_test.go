package journal

import (
	"fmt"
	"testing"

	"careen/api"
	"careen/disk"
	"careen/shard"
)

// someEntries are entries of all kinds, which may be written one behind the other to a disk without shards, of that format.
func someEntries(v int) []api.Entry {
	return []api.Entry{
		adopts(v, bare(2)),
		calls(ask(2, 10, 101, put("a", "x"))),
		adopts(v, some(5)),
		calls(ask(5, 10, 101, put("b", "y"))),
		calls(ask(5, 10, 101, put("b", "z"))), // it was done
		freezes(2),
		calls(ask(2, 10, 102, put("a", "y"))), // it is refused
		adopts(v, some(0)),
		thaws(2),
		drops(5),
		calls(ask(2, 10, 102, put("a", "z"))),
		adopts(v, bare(5)),
		adopts(v, some(2)),
	}
}

// states are the shards behind the first entries: none, one, and so on to all, by O2's words.
func states(t *testing.T, v int, begin []api.Shard, l []api.Entry) [][]api.Shard {
	t.Helper()
	all := [][]api.Shard{begin}
	for _, e := range l {
		next, f := wantApply(v, all[len(all)-1], e)
		if f != api.OK {
			t.Fatalf("%s: %d", say(e), f)
		}
		all = append(all, next)
	}
	return all
}

// O7: what is written is loaded, behind each entry, in either format, and whatever of it is synced.
func TestWrittenIsLoaded(t *testing.T) {
	for v := 1; v <= 2; v++ {
		l := someEntries(v)
		want := states(t, v, nil, l)
		d, synced := Begin(v), Begin(v)
		for i, e := range l {
			d, synced = written(t, d, e), disk.Sync(written(t, synced, e))
			checkLoad(t, d, v, want[i+1], 0)
			checkLoad(t, synced, v, want[i+1], 0)
			if d.Kept != "" || synced.Pend != "" || d.Pend != synced.Kept || d.Base != synced.Base {
				t.Errorf("behind %d entries: %s, synced %s", i+1, say(d), say(synced))
			}
		}
	}
}

// O7: behind a crash, at each place, the shards are those behind the first entries that were written: all of those that were synced, and those others whose bytes were kept. Rewritten, the disk goes on.
func TestCrash(t *testing.T) {
	for v := 1; v <= 2; v++ {
		l := someEntries(v)
		want := states(t, v, somes(1, 7), l)
		for synced := range len(l) + 1 {
			d := disk.Sync(written(t, api.Disk{Base: wantBase(v, somes(1, 7))}, l[:synced]...))
			ends := []int{0} // of the entries that pend, where each one ends
			for _, e := range l[synced:] {
				d = written(t, d, e)
				ends = append(ends, len(d.Pend))
			}
			whole := 0
			for keep := -1; keep <= len(d.Pend)+1; keep++ {
				for whole+1 < len(ends) && ends[whole+1] <= keep {
					whole++
				}
				behind := disk.Crash(d, keep)
				checkLoad(t, behind, v, want[synced+whole], 0)
				if keep%5 > 0 {
					continue
				}
				for u := 1; u <= 2; u++ {
					again, f := Rewrite(behind, u)
					if f != api.OK {
						t.Fatal(f)
					}
					checkLoad(t, again, u, want[synced+whole], 0)
					checkLoad(t, written(t, again, adopts(u, some(3)), drops(3), adopts(u, bare(3)), drops(3)), u, want[synced+whole], 0)
				}
			}
			if whole != len(l)-synced {
				t.Errorf("%d entries are whole at last, not %d", whole, len(l)-synced)
			}
		}
	}
}

// O7: rewritten, in either format, there and back, the shards are the same; rewritten twice is rewritten once.
func TestThereAndBack(t *testing.T) {
	for _, l := range append(lists(), states(t, 2, nil, someEntries(2))...) {
		for v := 1; v <= 2; v++ {
			d := api.Disk{Base: wantBase(v, l)}
			for u := 1; u <= 2; u++ {
				once, e := Rewrite(d, u)
				checkLoad(t, once, u, l, 0)
				twice, f := Rewrite(once, u)
				if once != twice || e != api.OK || f != api.OK {
					t.Errorf("%s: twice %s, %d, %d", say(once), say(twice), e, f)
				}
				other, e := Rewrite(once, 3-u)
				checkLoad(t, other, 3-u, l, 0)
				back, f := Rewrite(other, u)
				if back != once || e != api.OK || f != api.OK {
					t.Errorf("%s: back %s, %d, %d", say(once), say(back), e, f)
				}
			}
		}
	}
}

// O7: a shard that is frozen is thawed again; one that is dropped is there no more; the others are as they were; it may come again.
func TestFreezeAndDrop(t *testing.T) {
	for v := 1; v <= 2; v++ {
		for id := range 8 {
			all := somes(0, 1, 2, 3, 4, 5, 6, 7)
			d := api.Disk{Base: wantBase(v, all)}
			c := ask(id, 10, 101, put("new", "x"))
			d = written(t, d, freezes(id), calls(c))
			all[id].Frozen = true
			checkLoad(t, d, v, all, 0)
			d = written(t, d, freezes(id), thaws(id), thaws(id))
			all[id].Frozen = false
			checkLoad(t, d, v, all, 0)
			d = written(t, d, calls(c))
			all[id], _, _ = shard.Ask(v, all[id], c)
			checkLoad(t, d, v, all, 0)
			d = written(t, d, drops(id))
			others := append(deepAll(all[:id]), deepAll(all[id+1:])...)
			checkLoad(t, d, v, others, 0)
			for _, e := range []api.Entry{drops(id), freezes(id), thaws(id), calls(c)} {
				if u, f := checkWrite(t, d, e); u != d || f != api.ErrShard {
					t.Errorf("%s behind the drop: %d", say(e), f)
				}
			}
			checkLoad(t, written(t, d, adopts(v, all[id])), v, all, 0)
		}
	}
}

// O7: calls of unlike shards, and all else that is done to unlike ones, may be written in either order.
func TestEitherOrder(t *testing.T) {
	for v := 1; v <= 2; v++ {
		of := func(id int) []api.Entry {
			l := []api.Entry{adopts(v, bare(id)), drops(id), freezes(id), thaws(id)}
			for _, o := range []api.Op{put("a", "x"), put("new", "x"), {Kind: 3, Key: "a"}, {Kind: 3, Key: "z"}, {Kind: 4, Key: "a", Rev: 1, Value: "y"}, {Kind: 1, Key: "a"}, mark("a")} {
				if v == 2 || o.Kind != api.OpMark {
					l = append(l, calls(ask(id, 10, 101, o)), calls(ask(id, 15, 1, o)), calls(ask(id, 10, 100, o)))
				}
			}
			return l
		}
		for _, ids := range [][2]int{{2, 5}, {5, 2}, {0, 7}, {1, 2}} {
			begin := api.Disk{Base: wantBase(v, somes(0, 1, 2, 5, 6, 7))}
			for _, a := range of(ids[0]) {
				for _, b := range of(ids[1]) {
					_, one, e := Load(written(t, begin, a, b))
					_, other, f := Load(written(t, begin, b, a))
					if !equalAll(one, other) || e != api.OK || f != api.OK {
						t.Errorf("%s and %s: %s; the other way round %s", say(a), say(b), say(one), say(other))
					}
				}
			}
		}
	}
}

// way is a disk, and what one remembers who wrote it: the shards behind each entry that is not synced, the first ones those that are, and where each one's bytes end.
type way struct {
	d      api.Disk
	v      int
	states [][]api.Shard
	ends   []int
	told   map[string]int
}

// now is the shards behind all.
func (w *way) now() []api.Shard {
	return w.states[len(w.states)-1]
}

// settle forgets all but the shards behind the first entries: nothing pends then.
func (w *way) settle(whole int) {
	w.states, w.ends = [][]api.Shard{w.states[whole]}, []int{0}
}

// write writes an entry, or is refused, as O2's words have it.
func (w *way) write(t *testing.T, e api.Entry) {
	want, f := wantApply(w.v, w.now(), e)
	u, fault := Write(w.d, e)
	w.told[fmt.Sprint("kind ", e.Kind, ": ", fault)]++
	if fault == api.ErrVersion && w.v == 1 && e.Kind == 3 || f != api.OK && fault == f {
		if u != w.d {
			t.Fatalf("refused, but another disk: %s", say(u))
		}
		return
	}
	if fault != api.OK || f != api.OK {
		t.Fatalf("Write(%s): %d; want %d", say(e), fault, f)
	}
	w.d, w.states, w.ends = u, append(w.states, want), append(w.ends, len(u.Pend))
}

// rewrite writes all anew, in a format.
func (w *way) rewrite(t *testing.T, v int) {
	u, f := Rewrite(w.d, v)
	if f != api.OK || u.Kept+u.Pend != "" {
		t.Fatalf("Rewrite(%d): %d", v, f)
	}
	w.d, w.v = u, v
	w.settle(len(w.states) - 1)
}

// crash keeps so many bytes, and begins anew.
func (w *way) crash(t *testing.T, keep int) {
	whole := 0
	for whole+1 < len(w.ends) && w.ends[whole+1] <= keep {
		whole++
	}
	w.d = disk.Crash(w.d, keep)
	w.settle(whole)
	checkLoad(t, w.d, w.v, w.now(), 0)
	w.rewrite(t, w.v)
}

// random is an entry that looks like chance.
func (w *way) random(seed *uint64, n int) api.Entry {
	id := next(seed) % 8
	switch next(seed) % 12 {
	case 0:
		return adopts(w.v, bare(id))
	case 1:
		return adopts(w.v, some(id))
	case 2:
		return adopts(3-w.v, some(id))
	case 3:
		return drops(id)
	case 4:
		return freezes(id)
	case 5:
		return thaws(id)
	}
	key := fmt.Sprint("k", next(seed)%5)
	ops := []api.Op{put(key, fmt.Sprint("v", n)), {Kind: 3, Key: key}, {Kind: 4, Key: key, Rev: next(seed) % 3}, mark(key), {Kind: 1, Key: key}}
	return calls(ask(id, next(seed)%9+1, n/20+next(seed)%4+1, ops[next(seed)%len(ops)]))
}

// O7: long ways: of entries, syncs, crashes and other formats, one behind the other.
func TestLongWays(t *testing.T) {
	told := map[string]int{}
	for seed := range uint64(8) {
		x, v := seed, int(seed%2)+1
		w := way{d: Begin(v), v: v, states: [][]api.Shard{nil}, ends: []int{0}, told: told}
		for n := range 400 {
			switch next(&x) % 40 {
			case 0, 1, 2:
				w.d = disk.Sync(w.d)
				w.settle(len(w.states) - 1)
			case 3:
				w.crash(t, next(&x)%(len(w.d.Pend)+20)-10)
			case 4:
				w.rewrite(t, next(&x)%2+1)
			default:
				w.write(t, w.random(&x, n))
			}
			if n%4 == 0 {
				checkLoad(t, w.d, w.v, w.now(), 0)
			}
		}
	}
	for _, what := range []string{"kind 1: 0", "kind 1: 11", "kind 2: 0", "kind 2: 83", "kind 3: 0", "kind 3: 22", "kind 3: 83", "kind 4: 0", "kind 4: 83", "kind 5: 0", "kind 5: 83"} {
		if told[what] < 10 {
			t.Errorf("%s was told %d times", what, told[what])
		}
	}
}

func FuzzLoad(f *testing.F) {
	f.Add("", "", "")
	for v := 1; v <= 2; v++ {
		f.Add(wantBase(v, somes(0, 2)), inLog(v, freezes(2)), inLog(v, calls(ask(2, 10, 101, put("a", "x")))))
		f.Add(wantBase(v, nil), inLog(v, adopts(v, bare(2))), inLog(v, drops(2))+inLog(3-v, thaws(2)))
		f.Add(wantBase(v, somes(2, 2)), "x", "")
	}
	f.Add("3", "a", "b")
	f.Fuzz(func(t *testing.T, base, kept, pend string) {
		checkDisk(t, api.Disk{Base: base, Kept: kept, Pend: pend})
	})
}
