package route

import (
	"slices"
	"strconv"
	"testing"

	"careen/api"
)

// S4: each key has one shard, one that there is, whatever is asked ahead.
func TestOneShard(t *testing.T) {
	for n := 1; n <= 8; n++ {
		seen := map[string]int{}
		keysOf := make([]int, n)
		for _, key := range keys() {
			shard := Shard(key, n)
			if shard < 0 || shard >= n {
				t.Fatalf("Shard(%.40q, %d) = %d", key, n, shard)
			}
			seen[key] = shard
			keysOf[shard]++
		}
		for _, key := range slices.Backward(keys()) {
			checkShard(t, key, n, seen[key])
			checkShard(t, ("x" + key + "y")[1:len(key)+1], n, seen[key])
		}
		if slices.Contains(keysOf, 0) {
			t.Errorf("of %d shards some have no key: %v", n, keysOf)
		}
	}
}

// S4: of a key's shard a way may be learnt, and is told then.
func TestWayOfKey(t *testing.T) {
	for n := 1; n <= 8; n++ {
		var l []api.Way
		for i, key := range keys() {
			shard, w := Shard(key, n), api.Way{Owner: i%50 + 1, Epoch: i + 1}
			l = Learn(l, shard, w.Owner, w.Epoch)
			checkLook(t, l, shard, w, true)
		}
		if len(l) != n {
			t.Errorf("of %d shards %d ways", n, len(l))
		}
	}
}

// fact is what is told somebody who learns.
type fact struct{ shard, owner, epoch int }

// may tells whether one who remembers takes it for one that may be.
func (f fact) may() bool {
	return f.shard >= 0 && f.shard <= 7 && f.owner >= 1 && f.epoch >= 1 && f.epoch <= most
}

// memory is what one remembers who was told facts: all that were told of a shard, one behind the other.
type memory [8][]fact

// tell remembers a fact, if it may be.
func (m *memory) tell(f fact) {
	if f.may() {
		m[f.shard] = append(slices.Clip(m[f.shard]), f)
	}
}

// latest is the first one of the facts of a shard in its latest epoch, and whether there is one.
func (m *memory) latest(shard int) (api.Way, bool) {
	if shard < 0 || shard > 7 || len(m[shard]) == 0 {
		return api.Way{}, false
	}
	epoch := 0
	for _, f := range m[shard] {
		epoch = max(epoch, f.epoch)
	}
	i := slices.IndexFunc(m[shard], func(f fact) bool { return f.epoch == epoch })
	return api.Way{Owner: m[shard][i].owner, Epoch: epoch}, true
}

// checkFact learns a fact, and holds the ways behind it against those ahead of it, and against what one remembers.
func checkFact(t *testing.T, l []api.Way, m *memory, f fact) []api.Way {
	t.Helper()
	was := slices.Clone(l)
	n := Learn(l, f.shard, f.owner, f.epoch)
	m.tell(f)
	if !slices.Equal(l, was) {
		t.Fatalf("%v was written into: it is %v behind %v", was, l, f)
	}
	for shard := -1; shard < 12; shard++ {
		old, known := Look(was, shard)
		w, is := Look(n, shard)
		want, wanted := m.latest(shard)
		if w != want || is != wanted {
			t.Fatalf("%v behind %v: the way of %d is %v, %v; want %v, %v", n, f, shard, w, is, want, wanted)
		}
		if known && (!is || w.Epoch < old.Epoch || w.Epoch == old.Epoch && w != old) {
			t.Fatalf("%v behind %v: the way of %d is %v, and was %v", n, f, shard, w, old)
		}
		if shard != f.shard && (w != old || is != known) {
			t.Fatalf("%v behind %v: the way of another one, %d, is %v, and was %v", n, f, shard, w, old)
		}
	}
	if len(n) > 8 || len(n) < len(was) {
		t.Fatalf("%v behind %v: it was %v", n, f, was)
	}
	return n
}

// eachOrder tells all orders of facts.
func eachOrder(l []fact, yield func(l []fact)) {
	var from func(i int)
	from = func(i int) {
		if i == len(l) {
			yield(l)
			return
		}
		for k := i; k < len(l); k++ {
			l[i], l[k] = l[k], l[i]
			from(i + 1)
			l[i], l[k] = l[k], l[i]
		}
	}
	from(0)
}

// S4: whatever is learnt, in whatever order, the latest epoch is known.
func TestAllOrders(t *testing.T) {
	for _, facts := range [][]fact{
		{{2, 5, 3}, {2, 4, 2}, {2, 5, 4}, {2, 7, 9}, {2, 4, 1}, {2, 8, most}},
		{{0, 5, 3}, {7, 4, 3}, {0, 9, 4}, {7, 9, 1}, {3, 4, 1}, {3, 8, most}, {7, 1, 2}},
		{{0, 5, 3}, {0, 5, 3}, {1, 6, 3}, {1, 6, 2}, {8, 6, 9}, {-1, 6, 9}, {1, 0, 9}},
		{{4, 5, 0}, {4, 5, 1}, {4, 5, -1}, {4, 6, most}, {4, 7, most + 1}, {4, -1, 8}, {4, 9, 2}},
	} {
		orders := 0
		eachOrder(facts, func(facts []fact) {
			var l []api.Way
			var m memory
			for _, f := range facts {
				l = checkFact(t, l, &m, f)
			}
			orders++
		})
		if orders < 720 {
			t.Error(orders, "orders alone")
		}
	}
}

// S4: where each epoch has one owner, as chapter 18 has it, all orders come to the same ways.
func TestOrdersComeTogether(t *testing.T) {
	facts := []fact{{0, 5, 1}, {0, 6, 2}, {0, 5, 3}, {5, 2, 7}, {5, 3, 8}, {2, 1, 1}, {2, 9, 4}}
	want := ways(5, 3, 0, 0, 9, 4, 0, 0, 0, 0, 3, 8)
	eachOrder(facts, func(facts []fact) {
		var l []api.Way
		for _, f := range facts {
			l = Learn(l, f.shard, f.owner, f.epoch)
		}
		if !slices.Equal(l, want) {
			t.Fatalf("%v: %v; want %v", facts, l, want)
		}
	})
}

// S4: all short ways of facts, right ones and wrong ones.
func TestAllWays(t *testing.T) {
	var facts []fact
	for _, shard := range []int{0, 2, 7} {
		facts = append(facts, fact{shard, 1, 1}, fact{shard, 3, 2}, fact{shard, 4, 2}, fact{shard, 3, most})
	}
	facts = append(facts, fact{-1, 3, 3}, fact{8, 3, 3}, fact{2, 0, 3}, fact{2, 3, 0}, fact{2, 3, most + 1})
	var from func(l []api.Way, m memory, steps int)
	from = func(l []api.Way, m memory, steps int) {
		if steps == 0 {
			return
		}
		for _, f := range facts {
			next := m
			from(checkFact(t, l, &next, f), next, steps-1)
		}
	}
	from(nil, memory{}, 4)
}

// S4: long ways of facts that look like chance.
func TestLongWays(t *testing.T) {
	for seed := range uint64(30) {
		var l []api.Way
		var m memory
		for i := range 600 {
			f := fact{next(&seed)%11 - 1, next(&seed)%9 - 1, next(&seed)%(i/4+3) - 1}
			if next(&seed)%100 == 0 {
				f.epoch = []int{most - 1, most + 1, most + 2}[next(&seed)%3]
			}
			l = checkFact(t, l, &m, f)
		}
	}
}

// replies are one of each kind that means the same, and one that is no error.
func replies() []api.Errno {
	return []api.Errno{api.OK, api.ErrStale, api.ErrEpoch, api.ErrShard, api.ErrDown, api.ErrFrozen, api.ErrForm, 250, -1}
}

// checkEnds asks again and again, as Next has it, from the so many-th time on, and tells how often that was; what each reply is hangs on the ones ahead of it.
func checkEnds(t *testing.T, from int, reply func(asks int) api.Errno) int {
	t.Helper()
	for asks := from; ; asks++ {
		does := Next(reply(asks), asks)
		if does == api.DoDone || does == api.DoGive {
			return asks - from + 1
		}
		if asks >= 5 || does != api.DoAgain && does != api.DoLearn {
			t.Fatalf("at the time %d: %d", asks, does)
		}
	}
}

// S4: who asks again and again comes to an end, whatever the replies are.
func TestAsksEnd(t *testing.T) {
	for _, first := range replies() {
		for _, second := range replies() {
			for _, third := range replies() {
				told := []api.Errno{first, second, third}
				for from := -3; from <= 8; from++ {
					n := checkEnds(t, from, func(asks int) api.Errno { return told[(asks-from)%3] })
					if n > max(6-from, 1) {
						t.Errorf("%v, from %d on: %d times", told, from, n)
					}
				}
			}
		}
	}
	for _, e := range []api.Errno{api.ErrEpoch, api.ErrShard, api.ErrDown, api.ErrFrozen} {
		if n := checkEnds(t, 0, func(int) api.Errno { return e }); n != 6 {
			t.Errorf("where nothing changes it is asked %d times of %d", n, e)
		}
	}
}

// world is who has shards, in which epochs, and which ones are frozen or down, beside what a client believes.
type world struct {
	places [8]api.Way
	frozen [8]bool
	down   [4]bool // by an owner's number
	ways   []api.Way
}

// ask is what a client is replied that asks of a shard where it believes that to be: a client that knows nothing asks nobody.
func (w *world) ask(shard int) api.Errno {
	way, is := Look(w.ways, shard)
	switch {
	case !is, way.Owner != w.places[shard].Owner:
		return api.ErrShard
	case w.down[way.Owner]:
		return api.ErrDown
	case way.Epoch != w.places[shard].Epoch:
		return api.ErrEpoch
	case w.frozen[shard]:
		return api.ErrFrozen
	}
	return api.OK
}

// call asks for a key again and again, as Next has it, and tells how often, and the last reply; between the times something happens.
func (w *world) call(key string, happens func()) (int, api.Errno) {
	shard := Shard(key, 8)
	for asks := 0; ; asks++ {
		e := w.ask(shard)
		switch Next(e, asks) {
		case api.DoDone, api.DoGive:
			return asks + 1, e
		case api.DoLearn:
			p := w.places[shard]
			w.ways = Learn(w.ways, shard, p.Owner, p.Epoch)
		}
		happens()
	}
}

// S4: where shards move, freeze and are down meanwhile, each call ends; where nothing happens it is done at the second time at the latest, if its shard's owner is up.
func TestCallsEnd(t *testing.T) {
	ends := map[api.Errno]int{}
	for seed := range uint64(300) {
		w := &world{}
		for i := range w.places {
			w.places[i] = api.Way{Owner: i%3 + 1, Epoch: 1}
		}
		happens := func() {
			i := next(&seed) % 8
			switch next(&seed) % 5 {
			case 0, 1:
				w.places[i] = api.Way{Owner: next(&seed)%3 + 1, Epoch: w.places[i].Epoch + 1}
			case 2:
				w.frozen[i] = !w.frozen[i]
			case 3:
				w.down[next(&seed)%4] = next(&seed)%3 == 0
			}
		}
		for i := range 60 {
			n, e := w.call("key"+strconv.Itoa(i), happens)
			if ends[e]++; n > 6 {
				t.Fatalf("%v: asked %d times", *w, n)
			}
			happens()
		}
		w.frozen, w.down = [8]bool{}, [4]bool{}
		for _, key := range keys() {
			if n, e := w.call(key, func() {}); n > 2 || e != api.OK {
				t.Fatalf("%v: %.40q is asked %d times, and then %d", *w, key, n, e)
			}
		}
	}
	for _, e := range []api.Errno{api.OK, api.ErrDown, api.ErrFrozen} { // done, and given up
		if ends[e] < 50 {
			t.Errorf("%d calls alone end with %d", ends[e], e)
		}
	}
}

// R3, R4: what is done to an answer changes no other one, and what a call answers hangs on its arguments alone.
func TestAskedAgain(t *testing.T) {
	for _, l := range lists() {
		was := slices.Clone(l)
		for _, shard := range []int{-1, 0, 1, 7, 8, len(l) - 1} {
			for range 2 {
				overwrite(Learn(l, shard, 3, most))
				overwrite(Learn(l, shard, 3, 0))
				want, is := wantLook(was, shard)
				checkLook(t, l, shard, want, is)
				checkLearnt(t, l, shard, 3, most)
			}
		}
		if !slices.Equal(l, was) {
			t.Errorf("%s, behind %s", say(l), say(was))
		}
	}
}

func FuzzShard(f *testing.F) {
	f.Add("abc", 8)
	f.Add("", 0)
	f.Fuzz(func(t *testing.T, key string, n int) {
		checkShard(t, key, n, wantShard(key, n))
		checkShard(t, key, n&7+1, wantShard(key, n&7+1))
	})
}

func FuzzLearn(f *testing.F) {
	f.Add("\x05\x03", 2, 4, 2)
	f.Add("", 7, 1, most)
	f.Fuzz(func(t *testing.T, s string, shard, owner, epoch int) {
		var l []api.Way
		for i := 0; i+1 < len(s); i += 2 {
			l = append(l, api.Way{Owner: int(int8(s[i])), Epoch: int(int8(s[i+1]))})
		}
		for _, at := range []int{shard, shard & 7, len(l)} {
			checkLearnt(t, l, at, owner, epoch)
			checkLearnt(t, l, at, owner&15, epoch&127)
			want, is := wantLook(l, at)
			checkLook(t, l, at, want, is)
		}
	})
}

func FuzzNext(f *testing.F) {
	f.Add(82, 5)
	f.Fuzz(func(t *testing.T, e, asks int) {
		checkNext(t, api.Errno(e), asks, wantNext(api.Errno(e), asks))
		checkNext(t, api.Errno(e&127), asks&7, wantNext(api.Errno(e&127), asks&7))
	})
}
