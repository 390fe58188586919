package reply

import (
	"fmt"
	"maps"
	"math"
	"slices"
	"strings"
	"testing"

	"careen/api"
)

const most = 1 << 53 // an Id, a Rev

// text is a text of so many bytes.
func text(n int) string {
	return strings.Repeat("x", n)
}

// rep is a reply, in few words.
func rep(rev int, value string, keys ...string) api.Reply {
	return api.Reply{Rev: rev, Value: value, Keys: keys}
}

// done is a client's last call.
func done(client, id int, r api.Reply) api.Done {
	return api.Done{Client: client, Id: id, Reply: r}
}

// many are so many clients, 10 and 20 and so on, whose calls have ten times their number; some replies have Keys, some an Errno.
func many(n int) []api.Done {
	var l []api.Done
	for i := range n {
		c := 10 * (i + 1)
		r := rep(c, fmt.Sprint("v", c))
		switch i % 3 {
		case 0:
			r = rep(0, "", fmt.Sprint("k", c), "", text(16))
		case 1:
			r.Errno = api.Errno(70 + i)
		}
		l = append(l, done(c, 10*c, r))
	}
	return l
}

// deep is a cache in memory of its own.
func deep(l []api.Done) []api.Done {
	var all []api.Done
	for _, d := range l {
		d.Reply.Keys = append([]string(nil), d.Reply.Keys...)
		all = append(all, d)
	}
	return all
}

// with is a cache in which one client's last call is another one.
func with(l []api.Done, i int, d api.Done) []api.Done {
	l = deep(l)
	l[i] = d
	return l
}

// between is a cache in which a call stands at a place, ahead of what stood there.
func between(l []api.Done, i int, d api.Done) []api.Done {
	return slices.Insert(deep(l), i, d)
}

// rightReplies may be, at all edges.
func rightReplies() []api.Reply {
	return []api.Reply{
		{},
		{Keys: []string{}},
		{Rev: 1}, {Rev: most - 1}, {Rev: most},
		{Value: "x"}, {Value: "\x00\xff"}, {Value: text(199)}, {Value: text(200)},
		{Errno: 1}, {Errno: api.ErrNone}, {Errno: 254}, {Errno: 255},
		rep(0, "", ""), rep(0, "", "a"), rep(0, "", "a", "b"), rep(0, "", "b", "a"), rep(0, "", "a", "a"),
		rep(0, "", text(15)), rep(0, "", text(16)),
		rep(0, "", "a", "b", "c", "d"), rep(0, "", "a", "b", "c", "d", "e"), rep(0, "", "", "", "", "", ""),
		{Errno: 255, Rev: most, Value: text(200), Keys: []string{text(16), text(16), text(16), text(16), text(16)}},
	}
}

// wrongReplies may not be, each for one reason, but for the last two.
func wrongReplies() []api.Reply {
	l := []api.Reply{
		{Rev: -1}, {Rev: most + 1}, {Rev: -most}, {Rev: math.MinInt}, {Rev: math.MaxInt},
		{Value: text(201)}, {Value: text(300)}, {Value: text(456)},
		{Errno: -1}, {Errno: 256}, {Errno: 257}, {Errno: 1 << 32}, {Errno: math.MinInt}, {Errno: math.MaxInt},
		{Keys: make([]string, 6)}, {Keys: make([]string, 7)}, {Keys: make([]string, 261)},
		rep(0, "", "a", "b", "c", "d", "e", "f"),
		rep(0, "", text(17)), rep(0, "", text(300)),
	}
	for i := range 5 {
		keys := []string{"a", "b", "c", "d", "e"}
		keys[i] = text(17)
		l = append(l, api.Reply{Keys: keys}, api.Reply{Keys: keys[:i+1]})
	}
	return append(l, api.Reply{Errno: -1, Rev: -1, Value: text(201), Keys: make([]string, 6)}, api.Reply{Errno: 256, Rev: most + 1, Keys: []string{text(17)}})
}

// lists are right, at all edges.
func lists() [][]api.Done {
	l := [][]api.Done{
		nil,
		{},
		{done(1, 1, rep(1, "x"))},
		{done(1, most, rep(1, "x"))},
		{done(1000, 1, rep(1, "x"))},
		{done(1000, most, rep(1, "x"))},
		{done(1, 5, rep(1, "x")), done(1000, 5, rep(2, "y"))},
		{done(2, 5, rep(50, "")), done(4, 9, rep(90, ""))},
		{done(998, 3, rep(1, "")), done(999, 2, rep(2, "", "a")), done(1000, 1, rep(3, "", "a"))},
		{done(1, 9, rep(1, "same", "a", "b")), done(2, 8, rep(1, "same", "a", "b")), done(3, 7, rep(1, "same", "a", "b"))}, // Ids need not rise
	}
	for n := 1; n <= 8; n++ {
		l = append(l, many(n))
	}
	for i, r := range rightReplies() {
		l = append(l, []api.Done{done(3, 5, r)}, with(many(3), i%3, done(10*(i%3+1), 7, r)))
	}
	return l
}

// wrongLists are those that may not be.
func wrongLists() [][]api.Done {
	a, b, c := done(1, 5, rep(1, "a")), done(2, 5, rep(2, "b")), done(3, 5, rep(3, "c"))
	l := [][]api.Done{
		many(9), many(10), many(16), many(99), many(264), // right, but for how many there are
		make([]api.Done, 1), make([]api.Done, 9), // no Client, no Id
		{a, a}, {a, b, b}, {a, a, b}, {a, b, a}, {a, done(1, 6, rep(9, ""))}, // twice
		{b, a}, {a, c, b}, {c, a, b}, {c, b, a}, {done(1000, 1, rep(1, "")), done(999, 1, rep(1, ""))}, // falling
	}
	for _, client := range []int{0, -1, -1000, math.MinInt} {
		l = append(l, []api.Done{done(client, 5, rep(1, ""))}, between(many(3), 0, done(client, 5, rep(1, ""))))
	}
	for _, client := range []int{1001, math.MaxInt} {
		l = append(l, []api.Done{done(client, 5, rep(1, ""))}, between(many(3), 3, done(client, 5, rep(1, ""))))
	}
	for _, id := range []int{0, -1, most + 1, -most, math.MinInt, math.MaxInt} {
		l = append(l, []api.Done{done(1, id, rep(1, ""))}, with(many(3), 1, done(20, id, rep(1, ""))), with(many(8), 7, done(80, id, rep(1, ""))))
	}
	for i, r := range wrongReplies() {
		l = append(l, []api.Done{done(1, 5, r)}, with(many(3), i%3, done(10*(i%3+1), 7, r)))
	}
	return l
}

// equal is what Same is to tell, without its help.
func equal(a, b api.Reply) bool {
	if a.Errno != b.Errno || a.Rev != b.Rev || a.Value != b.Value || len(a.Keys) != len(b.Keys) {
		return false
	}
	for i := range a.Keys {
		if a.Keys[i] != b.Keys[i] {
			return false
		}
	}
	return true
}

// equalAll is what SameAll is to tell, without its help.
func equalAll(a, b []api.Done) bool {
	if len(a) != len(b) {
		return false
	}
	for i := range a {
		if a[i].Client != b[i].Client || a[i].Id != b[i].Id || !equal(a[i].Reply, b[i].Reply) {
			return false
		}
	}
	return true
}

// wantReply is what M1 says of a reply.
func wantReply(r api.Reply) bool {
	return 0 <= r.Rev && r.Rev <= most && len(r.Value) <= 200 && len(r.Keys) <= 5 && !slices.ContainsFunc(r.Keys, func(k string) bool { return len(k) > 16 }) && 0 <= r.Errno && r.Errno <= 255
}

// wantEach is M1 by its words, but for how many there are.
func wantEach(l []api.Done) bool {
	for i, d := range l {
		if d.Client < 1 || d.Client > 1000 || i > 0 && d.Client <= l[i-1].Client || d.Id < 1 || d.Id > most || !wantReply(d.Reply) {
			return false
		}
	}
	return true
}

// wantRight is M1 by its words.
func wantRight(l []api.Done) bool {
	return len(l) <= 8 && wantEach(l)
}

// byClient are the last calls of clients.
func byClient(l []api.Done) map[int]api.Done {
	all := map[int]api.Done{}
	for _, d := range l {
		all[d.Client] = d
	}
	return all
}

// wantLook is M2 by its words.
func wantLook(l []api.Done, client, id int) (api.Reply, api.Errno) {
	if !wantRight(l) || client < 1 || client > 1000 || id < 1 || id > most {
		return api.Reply{}, 1
	}
	d, is := byClient(l)[client]
	if !is || d.Id < id {
		return api.Reply{}, 70
	}
	if d.Id == id {
		return d.Reply, 0
	}
	return api.Reply{}, 81
}

// wantKeep is M3 by its words: of last calls by their clients, which are put in order at last.
func wantKeep(l []api.Done, client, id int, r api.Reply) ([]api.Done, api.Errno) {
	_, e := wantLook(l, client, id)
	all := byClient(l)
	_, is := all[client]
	all[client] = done(client, id, r)
	var u []api.Done
	for _, c := range slices.Sorted(maps.Keys(all)) {
		u = append(u, all[c])
	}
	if e == 1 || e == 0 || !wantEach(u) {
		return nil, 1
	}
	if e == 81 {
		return nil, 81
	}
	if !is && len(l) == 8 {
		return nil, 50
	}
	return u, 0
}

// heldReply is a reply whose Keys stand between others, and what tells whether any of them was written into.
func heldReply(r api.Reply) (api.Reply, func() bool) {
	wide := slices.Concat([]string{"ahead"}, r.Keys, []string{"behind", "", "more"})
	was := slices.Clone(wide)
	r.Keys = wide[1 : 1+len(r.Keys)]
	return r, func() bool { return !slices.Equal(wide, was) }
}

// held is a cache that stands between others' last calls, the replies' Keys between others, and what tells whether any of them was written into.
func held(l []api.Done) ([]api.Done, func() bool) {
	now := slices.Concat([]api.Done{done(-1, -1, rep(1, "ahead", "a"))}, l, []api.Done{done(2000, 1, rep(2, "behind", "b")), {}, done(-2, -2, rep(3, "more"))})
	var written []func() bool
	for i := range now {
		r, w := heldReply(now[i].Reply)
		now[i].Reply = r
		written = append(written, w)
	}
	was := deep(now)
	return now[1 : 1+len(l)], func() bool {
		return !equalAll(now, was) || slices.ContainsFunc(written, func(w func() bool) bool { return w() })
	}
}

// overwrite writes into all of a list, spare room too, and grows it.
func overwrite[T any](l []T, x T) {
	all := l[:cap(l)]
	for i := range all {
		all[i] = x
	}
	_ = append(l, x, x)
}

// overwriteAll writes into all of a cache, its replies' Keys too, and tells whether the Keys of one reply were another one's, too.
func overwriteAll(l []api.Done) bool {
	was, shared := deep(l), false
	for i := range l {
		overwrite(l[i].Reply.Keys, "over")
		was[i].Reply.Keys = slices.Clone(l[i].Reply.Keys)
		shared = shared || !equalAll(l, was)
	}
	overwrite(l, done(-7, -7, rep(-7, "over", "over")))
	return shared
}

// say is anything in a few words, whatever bytes it has.
func say(x any) string {
	return fmt.Sprintf("%.400q", fmt.Sprint(x))
}

// name is a cache in a few words.
func name(l []api.Done) string {
	if len(l) > 5 {
		return fmt.Sprintf("%d clients, %s ..", len(l), say(l[:2]))
	}
	return say(l)
}

// checkLook holds Look to what is to be told, and asks that nothing that was handed in is written into, or given out.
func checkLook(t *testing.T, l []api.Done, client, id int, want api.Reply, e api.Errno) {
	t.Helper()
	asked := func() string { return fmt.Sprintf("Look(%s, %d, %d)", name(l), client, id) }
	in, written := held(l)
	for _, again := range []string{"", ", asked again"} {
		r, got := Look(in, client, id)
		if !equal(r, want) || got != e {
			t.Errorf("%s%s = %s, %d; want %s, %d", asked(), again, say(r), got, say(want), e)
		}
		if written() {
			t.Errorf("%s wrote into what was handed in", asked())
		}
		overwrite(r.Keys, "over")
		if written() {
			t.Errorf("%s gives out what was handed in", asked())
		}
	}
	if r, got := Look(l, client, id); !equal(r, want) || got != e { // as it is: no list at all, among others
		t.Errorf("%s, as it is = %s, %d", asked(), say(r), got)
	}
}

// checkKeep holds Keep to what is to be told, and asks that nothing that was handed in is written into, or given out.
func checkKeep(t *testing.T, l []api.Done, client, id int, r api.Reply, want []api.Done, e api.Errno) {
	t.Helper()
	asked := func() string { return fmt.Sprintf("Keep(%s, %d, %d, %s)", name(l), client, id, say(r)) }
	in, written := held(l)
	reply, replyWritten := heldReply(r)
	for _, again := range []string{"", ", asked again"} {
		u, got := Keep(in, client, id, reply)
		if !equalAll(u, want) || got != e {
			t.Errorf("%s%s = %s, %d; want %s, %d", asked(), again, name(u), got, name(want), e)
		}
		if written() || replyWritten() {
			t.Errorf("%s wrote into what was handed in", asked())
		}
		if overwriteAll(u) {
			t.Errorf("%s gives out a list twice", asked())
		}
		if written() || replyWritten() {
			t.Errorf("%s gives out what was handed in", asked())
		}
	}
	if u, got := Keep(l, client, id, r); !equalAll(u, want) || got != e {
		t.Errorf("%s, as it is = %s, %d", asked(), name(u), got)
	}
}

// checkRefused asks that Keep tells an error, and nothing else.
func checkRefused(t *testing.T, l []api.Done, client, id int, r api.Reply, e api.Errno) {
	t.Helper()
	checkKeep(t, l, client, id, r, nil, e)
}

// places are clients and Ids to ask a list about: each that there is, its neighbours, and the edges.
func places(l []api.Done) (clients, ids []int) {
	clients, ids = []int{1, 2, 5, 999, 1000}, []int{1, 2, 5, most - 1, most}
	for _, d := range l {
		for n := -1; n <= 1; n++ {
			clients, ids = append(clients, d.Client+n), append(ids, d.Id+n)
		}
	}
	for _, l := range []*[]int{&clients, &ids} {
		slices.Sort(*l)
		*l = slices.Compact(*l)
	}
	return clients, ids
}

// wrongClients and wrongIds may not be.
func wrongClients() []int {
	return []int{0, -1, 1001, 1002, -1000, 1<<32 + 10, 1<<16 + 10, 1<<10 + 10, math.MinInt, math.MaxInt}
}

func wrongIds() []int {
	return []int{0, -1, most + 1, most + 100, -most, -100, math.MinInt, math.MaxInt}
}

// The chapter's example.
func TestExample(t *testing.T) {
	l, e := Keep(nil, 2, 5, rep(7, "x", "a"))
	if e != api.OK {
		t.Fatal(e)
	}
	checkLook(t, l, 2, 5, rep(7, "x", "a"), api.OK)
	checkLook(t, l, 2, 6, api.Reply{}, api.ErrNone)
	checkLook(t, l, 2, 4, api.Reply{}, api.ErrStale)
}

// M1: what is right, and what is not; neither is written into.
func TestRight(t *testing.T) {
	for i, all := range [][][]api.Done{lists(), wrongLists()} {
		for _, l := range all {
			in, written := held(l)
			if Right(in) != (i == 0) || Right(l) != (i == 0) || wantRight(in) != (i == 0) {
				t.Errorf("Right(%s) is not %v", name(l), i == 0)
			}
			if written() {
				t.Errorf("Right(%s) wrote into it", name(l))
			}
		}
	}
	for n, want := range map[int]bool{0: true, 1: true, 7: true, 8: true, 9: false, 10: false, 264: false} {
		if Right(many(n)) != want {
			t.Errorf("Right of %d clients is not %v", n, want)
		}
	}
}

// M1: written out, each edge alone.
func TestRightEdges(t *testing.T) {
	none := api.Reply{}
	for _, c := range []struct {
		d    api.Done
		want bool
	}{
		{done(0, 1, none), false}, {done(1, 1, none), true}, {done(1000, 1, none), true}, {done(1001, 1, none), false}, {done(-1, 1, none), false},
		{done(1, 0, none), false}, {done(1, 2, none), true}, {done(1, most, none), true}, {done(1, most+1, none), false}, {done(1, -1, none), false},
		{done(1, 1, rep(-1, "")), false}, {done(1, 1, rep(1, "")), true}, {done(1, 1, rep(most, "")), true}, {done(1, 1, rep(most+1, "")), false},
		{done(1, 1, rep(0, text(200))), true}, {done(1, 1, rep(0, text(201))), false},
		{done(1, 1, rep(0, "", make([]string, 5)...)), true}, {done(1, 1, rep(0, "", make([]string, 6)...)), false},
		{done(1, 1, rep(0, "", text(16))), true}, {done(1, 1, rep(0, "", text(17))), false},
		{done(1, 1, rep(0, "", "a", "b", "c", "d", text(16))), true}, {done(1, 1, rep(0, "", "a", "b", "c", "d", text(17))), false},
		{done(1, 1, api.Reply{Errno: -1}), false}, {done(1, 1, api.Reply{Errno: 255}), true}, {done(1, 1, api.Reply{Errno: 256}), false},
	} {
		if Right([]api.Done{c.d}) != c.want {
			t.Errorf("Right of %s alone is not %v", say(c.d), c.want)
		}
	}
	if !Right(nil) || !Right([]api.Done{}) {
		t.Error("no list, or an empty one, is not right")
	}
}

// M1: each wrong thing at each place of each length.
func TestRightEachPlace(t *testing.T) {
	wrong := []func(l []api.Done, i int){
		func(l []api.Done, i int) { l[i].Client = 0 },
		func(l []api.Done, i int) { l[i].Client = -5 },
		func(l []api.Done, i int) { l[i].Client = 1001 },
		func(l []api.Done, i int) { l[i].Id = 0 },
		func(l []api.Done, i int) { l[i].Id = most + 1 },
		func(l []api.Done, i int) { l[i].Reply.Rev = -1 },
		func(l []api.Done, i int) { l[i].Reply.Rev = most + 1 },
		func(l []api.Done, i int) { l[i].Reply.Value = text(201) },
		func(l []api.Done, i int) { l[i].Reply.Keys = make([]string, 6) },
		func(l []api.Done, i int) { l[i].Reply.Keys = []string{"", text(17)} },
		func(l []api.Done, i int) { l[i].Reply.Errno = -1 },
		func(l []api.Done, i int) { l[i].Reply.Errno = 256 },
		func(l []api.Done, i int) {
			if i == 0 {
				l[i].Client = 0
				return
			}
			l[i].Client = l[i-1].Client
		},
		func(l []api.Done, i int) {
			if i == 0 {
				l[i].Client = -1
				return
			}
			l[i], l[i-1] = l[i-1], l[i]
		},
	}
	for n := 1; n <= 8; n++ {
		for i := range n {
			for k, spoil := range wrong {
				l := many(n)
				spoil(l, i)
				if Right(l) {
					t.Errorf("%d clients: right, with the wrong thing %d at %d", n, k, i)
				}
			}
		}
	}
}

// M2: written out.
func TestLook(t *testing.T) {
	l := []api.Done{done(2, 5, rep(50, "x")), done(4, 9, rep(0, "", "b", "a")), done(7, most, api.Reply{Errno: 71, Rev: 3})}
	for _, c := range []struct {
		client, id int
		r          api.Reply
		e          api.Errno
	}{
		{2, 5, l[0].Reply, api.OK},
		{2, 6, api.Reply{}, api.ErrNone},
		{2, 4, api.Reply{}, api.ErrStale},
		{2, 1, api.Reply{}, api.ErrStale},
		{2, most, api.Reply{}, api.ErrNone},
		{4, 9, l[1].Reply, api.OK},
		{4, 10, api.Reply{}, api.ErrNone},
		{4, 8, api.Reply{}, api.ErrStale},
		{4, 5, api.Reply{}, api.ErrStale},
		{7, most, l[2].Reply, api.OK},
		{7, most - 1, api.Reply{}, api.ErrStale},
		{7, most + 1, api.Reply{}, api.ErrArg},
		{1, 5, api.Reply{}, api.ErrNone},
		{3, 1, api.Reply{}, api.ErrNone},
		{3, 9, api.Reply{}, api.ErrNone},
		{8, most, api.Reply{}, api.ErrNone},
		{1000, 1, api.Reply{}, api.ErrNone},
		{0, 5, api.Reply{}, api.ErrArg},
		{1001, 5, api.Reply{}, api.ErrArg},
		{2, 0, api.Reply{}, api.ErrArg},
		{2, -1, api.Reply{}, api.ErrArg},
		{3, 0, api.Reply{}, api.ErrArg},
		{3, most + 1, api.Reply{}, api.ErrArg},
	} {
		checkLook(t, l, c.client, c.id, c.r, c.e)
	}
	for _, none := range [][]api.Done{nil, {}} {
		checkLook(t, none, 1, 1, api.Reply{}, api.ErrNone)
		checkLook(t, none, 1000, most, api.Reply{}, api.ErrNone)
		checkLook(t, none, 0, 1, api.Reply{}, api.ErrArg)
		checkLook(t, none, 1001, 1, api.Reply{}, api.ErrArg)
		checkLook(t, none, 1, 0, api.Reply{}, api.ErrArg)
		checkLook(t, none, 1, most+1, api.Reply{}, api.ErrArg)
	}
	checkLook(t, many(8), 80, 800, many(8)[7].Reply, api.OK)
	checkLook(t, many(9), 80, 800, api.Reply{}, api.ErrArg)
	checkLook(t, many(9), 80, 801, api.Reply{}, api.ErrArg)
	checkLook(t, many(9), 80, 799, api.Reply{}, api.ErrArg)
}

// M2: each reply that may be is told as it was kept.
func TestLookReplies(t *testing.T) {
	for _, r := range rightReplies() {
		for i := range 8 {
			l := with(many(8), i, done(10*(i+1), 7, r))
			checkLook(t, l, 10*(i+1), 7, r, api.OK)
			checkLook(t, l, 10*(i+1), 8, api.Reply{}, api.ErrNone)
			checkLook(t, l, 10*(i+1), 6, api.Reply{}, api.ErrStale)
		}
	}
}

// M2: all calls at all lists, and what may not be.
func TestLookByTheWords(t *testing.T) {
	for _, l := range append(lists(), wrongLists()...) {
		clients, ids := places(l[:min(len(l), 9)])
		for i, client := range append(clients, wrongClients()...) {
			for k, id := range append(ids, wrongIds()...) {
				if i >= len(clients) && k%3 != i%3 { // of what is wrong twice, a part will do
					continue
				}
				want, e := wantLook(l, client, id)
				checkLook(t, l, client, id, want, e)
			}
		}
	}
}

// M3: written out: a client that there is, and new ones at each place.
func TestKeep(t *testing.T) {
	a, b := done(2, 5, rep(50, "x", "k")), done(4, 9, rep(0, "", "b", "a"))
	l := []api.Done{a, b}
	for _, r := range []api.Reply{rep(7, "y"), {}, rep(0, "", "p", "q", "r"), {Errno: 255}} {
		for _, c := range []struct {
			client, id int
			want       []api.Done
			e          api.Errno
		}{
			{2, 6, []api.Done{done(2, 6, r), b}, api.OK},
			{2, most, []api.Done{done(2, most, r), b}, api.OK},
			{4, 10, []api.Done{a, done(4, 10, r)}, api.OK},
			{1, 1, []api.Done{done(1, 1, r), a, b}, api.OK},
			{1, most, []api.Done{done(1, most, r), a, b}, api.OK},
			{3, 1, []api.Done{a, done(3, 1, r), b}, api.OK},
			{5, 1, []api.Done{a, b, done(5, 1, r)}, api.OK},
			{1000, most, []api.Done{a, b, done(1000, most, r)}, api.OK},
			{2, 5, nil, api.ErrArg},
			{4, 9, nil, api.ErrArg},
			{2, 4, nil, api.ErrStale},
			{2, 1, nil, api.ErrStale},
			{4, 8, nil, api.ErrStale},
			{0, 1, nil, api.ErrArg},
			{1001, 1, nil, api.ErrArg},
			{2, 0, nil, api.ErrArg},
			{2, most + 1, nil, api.ErrArg},
			{3, 0, nil, api.ErrArg},
			{3, most + 1, nil, api.ErrArg},
		} {
			checkKeep(t, l, c.client, c.id, r, c.want, c.e)
		}
		for _, none := range [][]api.Done{nil, {}} {
			checkKeep(t, none, 1, 1, r, []api.Done{done(1, 1, r)}, api.OK)
			checkKeep(t, none, 1000, most, r, []api.Done{done(1000, most, r)}, api.OK)
			checkRefused(t, none, 0, 1, r, api.ErrArg)
			checkRefused(t, none, 1001, 1, r, api.ErrArg)
			checkRefused(t, none, 1, 0, r, api.ErrArg)
			checkRefused(t, none, 1, most+1, r, api.ErrArg)
		}
	}
}

// M3: each reply that may be is kept, each other one is refused, wherever its client stands.
func TestKeepReplies(t *testing.T) {
	l := many(3)
	for _, r := range rightReplies() {
		for i := range 3 {
			checkKeep(t, l, 10*i+10, 100*i+101, r, with(l, i, done(10*i+10, 100*i+101, r)), api.OK)
			checkKeep(t, l, 10*i+9, 1, r, between(l, i, done(10*i+9, 1, r)), api.OK)
		}
		checkKeep(t, l, 31, 1, r, between(l, 3, done(31, 1, r)), api.OK)
	}
	for _, r := range wrongReplies() {
		for _, client := range []int{1, 10, 11, 20, 30, 31, 1000} {
			checkRefused(t, l, client, 1000, r, api.ErrArg)
			checkRefused(t, nil, client, 1, r, api.ErrArg)
		}
	}
}

// M3: 7, 8 and 9 clients, a new one at each place, and one that there is.
func TestKeepFull(t *testing.T) {
	r := rep(7, "y", "k")
	for i := range 8 {
		checkKeep(t, many(8), 10*i+10, 100*i+101, r, with(many(8), i, done(10*i+10, 100*i+101, r)), api.OK)
		checkKeep(t, many(7), 10*i+5, 1, r, between(many(7), i, done(10*i+5, 1, r)), api.OK)
		checkRefused(t, many(8), 10*i+5, 1, r, api.ErrFull)
		checkRefused(t, many(8), 10*i+5, most, r, api.ErrFull)
		checkRefused(t, many(9), 10*i+5, 1, r, api.ErrArg)
		checkRefused(t, many(9), 10*i+10, 100*i+101, r, api.ErrArg)
	}
	checkRefused(t, many(8), 1, 1, r, api.ErrFull)
	checkRefused(t, many(8), 1000, 1, r, api.ErrFull)
	checkRefused(t, many(9), 1000, 1, r, api.ErrArg)
}

// M3: which error is told where two would do.
func TestKeepWhichError(t *testing.T) {
	odd, fine := rep(-1, ""), rep(1, "")
	checkRefused(t, many(3), 20, 199, odd, api.ErrArg) // too old, and odd
	checkRefused(t, many(3), 20, 199, fine, api.ErrStale)
	checkRefused(t, many(3), 20, 200, odd, api.ErrArg)
	checkRefused(t, many(8), 5, 1, odd, api.ErrArg) // no room, and odd
	checkRefused(t, many(8), 5, 1, fine, api.ErrFull)
	checkRefused(t, many(8), 80, 799, fine, api.ErrStale) // too old, and no room for another one
	checkRefused(t, many(8), 80, 800, fine, api.ErrArg)
	checkRefused(t, many(8), 0, 1, fine, api.ErrArg)
	checkRefused(t, many(8), 1001, 1, fine, api.ErrArg)
	checkRefused(t, many(8), 5, 0, fine, api.ErrArg)
	checkRefused(t, many(8), 5, most+1, fine, api.ErrArg)
	checkRefused(t, many(9), 80, 799, fine, api.ErrArg) // too many, and too old
	checkRefused(t, many(9), 5, 1, fine, api.ErrArg)
	for _, r := range wrongReplies() {
		checkRefused(t, many(8), 80, 799, r, api.ErrArg)
		checkRefused(t, many(8), 80, 800, r, api.ErrArg)
		checkRefused(t, many(8), 85, 1, r, api.ErrArg)
	}
	wrong := []api.Done{done(2, 5, fine), done(1, 5, fine)}
	checkRefused(t, wrong, 2, 4, fine, api.ErrArg)
	checkRefused(t, wrong, 2, 6, fine, api.ErrArg)
	checkRefused(t, []api.Done{done(2, 5, odd)}, 2, 6, fine, api.ErrArg) // what would be right behind it is not right now
	checkRefused(t, []api.Done{done(2, 0, fine)}, 2, 6, fine, api.ErrArg)
}

// M3: all calls at all lists, and what may not be.
func TestKeepByTheWords(t *testing.T) {
	replies := append(rightReplies(), wrongReplies()...)
	for _, l := range append(lists(), wrongLists()...) {
		clients, ids := places(l[:min(len(l), 9)])
		for i, client := range append(clients, wrongClients()...) {
			for k, id := range append(ids, wrongIds()...) {
				if i >= len(clients) && k%3 != i%3 {
					continue
				}
				for _, r := range []api.Reply{rightReplies()[(i+k)%len(rightReplies())], replies[(i*7+k)%len(replies)]} {
					want, e := wantKeep(l, client, id, r)
					checkKeep(t, l, client, id, r, want, e)
				}
			}
		}
	}
}

// M3: a reply that has the Keys of one that is kept already: each has its own, behind it.
func TestKeepSharedKeys(t *testing.T) {
	keys := []string{"a", "b", "c", "d", "e"}
	l := []api.Done{done(1, 1, rep(0, "", keys...)), done(2, 1, rep(0, "", keys[:3]...)), done(3, 1, rep(0, "", keys[1:]...))}
	for client := 1; client <= 4; client++ {
		u, e := Keep(l, client, 2, rep(0, "", keys[:2]...))
		want, _ := wantKeep(deep(l), client, 2, rep(0, "", "a", "b"))
		if e != api.OK || !equalAll(u, want) {
			t.Errorf("client %d: %s, %d", client, name(u), e)
		}
		if overwriteAll(u) || !slices.Equal(keys, []string{"a", "b", "c", "d", "e"}) {
			t.Errorf("client %d: a list is given out that is another one's, too", client)
		}
	}
}

// M3: what is handed in is not kept: what is written into it later changes nothing of what came out.
func TestNotKept(t *testing.T) {
	l, r := many(4), rep(0, "", "p", "q")
	u, _ := Keep(l, 25, 1, r)
	was := deep(u)
	told, _ := Look(l, 10, 100)
	toldWas := rep(told.Rev, told.Value, slices.Clone(told.Keys)...)
	overwriteAll(l)
	overwrite(r.Keys, "over")
	if !equalAll(u, was) || !equal(told, toldWas) {
		t.Errorf("%s, %s; want %s, %s", name(u), say(told), name(was), say(toldWas))
	}
}

// M4: of all replies, right or not.
func TestSame(t *testing.T) {
	all := append(rightReplies(), wrongReplies()...)
	for _, a := range all {
		for _, b := range all {
			x, writtenA := heldReply(a)
			y, writtenB := heldReply(b)
			if want := equal(a, b); Same(x, y) != want || Same(a, b) != want {
				t.Errorf("Same(%s, %s) is not %v", say(a), say(b), want)
			}
			if writtenA() || writtenB() {
				t.Errorf("Same(%s, %s) wrote into them", say(a), say(b))
			}
		}
	}
	was := api.Reply{Errno: 71, Rev: 5, Value: "v", Keys: []string{"a", "b"}}
	for i, r := range []api.Reply{
		{Errno: 70, Rev: 5, Value: "v", Keys: []string{"a", "b"}},
		{Errno: 71, Rev: 6, Value: "v", Keys: []string{"a", "b"}},
		{Errno: 71, Rev: 5, Value: "w", Keys: []string{"a", "b"}},
		{Errno: 71, Rev: 5, Value: "v", Keys: []string{"b", "a"}},
		{Errno: 71, Rev: 5, Value: "v", Keys: []string{"a", "c"}},
		{Errno: 71, Rev: 5, Value: "v", Keys: []string{"a"}},
		{Errno: 71, Rev: 5, Value: "v", Keys: []string{"b"}},
		{Errno: 71, Rev: 5, Value: "v", Keys: []string{"a", "b", ""}},
		{Errno: 71, Rev: 5, Value: "v", Keys: []string{"ab"}},
		{Errno: 71, Rev: 5, Value: "v"},
		{},
	} {
		if Same(r, was) || Same(was, r) {
			t.Errorf("difference %d is not seen", i)
		}
	}
	if !Same(was, copyOf(was)) || !Same(api.Reply{}, api.Reply{Keys: []string{}}) || !Same(api.Reply{Keys: []string{}}, api.Reply{}) || Same(api.Reply{}, rep(0, "", "")) {
		t.Error("a copy, no Keys and an empty list of them, or no Keys and an empty one")
	}
}

// copyOf is a reply in memory of its own.
func copyOf(r api.Reply) api.Reply {
	return deep([]api.Done{{Reply: r}})[0].Reply
}

// M4: of all caches, right or not.
func TestSameAll(t *testing.T) {
	all := append(lists(), wrongLists()...)
	for i, a := range all {
		in, written := held(a)
		for j, b := range all {
			if want := equalAll(a, b); SameAll(in, b) != want || SameAll(b, in) != want || i == j && !want {
				t.Errorf("SameAll(%s, %s) is not %v", name(a), name(b), want)
			}
		}
		if written() {
			t.Errorf("SameAll(%s, ..) wrote into it", name(a))
		}
	}
	if !SameAll(nil, []api.Done{}) || !SameAll([]api.Done{}, nil) || SameAll(nil, make([]api.Done, 1)) || SameAll(make([]api.Done, 1), nil) {
		t.Error("no list, and an empty one")
	}
}

// M4: each difference in one client of three; fewer, more, and another order.
func TestSameAllEachDifference(t *testing.T) {
	was := []api.Done{done(1, 5, rep(1, "x", "a", "b")), done(2, 5, rep(1, "x", "a", "b")), done(3, 5, rep(1, "x", "a", "b"))}
	changes := []func(d *api.Done){
		func(d *api.Done) { d.Client += 10 },
		func(d *api.Done) { d.Id++ },
		func(d *api.Done) { d.Reply.Errno = 70 },
		func(d *api.Done) { d.Reply.Rev++ },
		func(d *api.Done) { d.Reply.Value = "y" },
		func(d *api.Done) { d.Reply.Keys[0], d.Reply.Keys[1] = "b", "a" },
		func(d *api.Done) { d.Reply.Keys[1] = "c" },
		func(d *api.Done) { d.Reply.Keys = d.Reply.Keys[:1] },
		func(d *api.Done) { d.Reply.Keys = d.Reply.Keys[1:] },
		func(d *api.Done) { d.Reply.Keys = append(d.Reply.Keys, "") },
		func(d *api.Done) { d.Reply.Keys = nil },
		func(d *api.Done) { *d = api.Done{} },
	}
	for i := range was {
		for k, change := range changes {
			l := deep(was)
			change(&l[i])
			if SameAll(l, was) || SameAll(was, l) {
				t.Errorf("change %d of %d is the same", k, i)
			}
		}
		if l := slices.Delete(deep(was), i, i+1); SameAll(l, was) || SameAll(was, l) {
			t.Errorf("without %d it is the same", i)
		}
	}
	if m := []api.Done{was[1], was[0], was[2]}; SameAll(m, was) || SameAll(was, m) || !SameAll(deep(was), was) {
		t.Error("the order is not asked, or a copy is not the same")
	}
}

// checkFollows holds one Keep that is done against M5: what comes out is right, the call's reply is told, later calls are new and earlier ones stale, and others are as they were.
func checkFollows(t *testing.T, l []api.Done, client, id int, r api.Reply) []api.Done {
	t.Helper()
	u, e := Keep(l, client, id, r)
	if e != api.OK {
		return l
	}
	wrong := func(what string) {
		t.Helper()
		t.Errorf("Keep(%s, %d, %d, %s) = %s: %s", name(l), client, id, say(r), name(u), what)
	}
	if !Right(u) {
		wrong("not right")
	}
	if told, e := Look(u, client, id); !equal(told, r) || e != api.OK {
		wrong("the call's reply is not told")
	}
	if _, e := Look(u, client, id+1); e != api.ErrNone && id < most {
		wrong("the next call is not new")
	}
	if _, e := Look(u, client, id-1); e != api.ErrStale && id > 1 {
		wrong("the call ahead is not stale")
	}
	if _, e := Look(l, client, id); e != api.ErrNone {
		wrong("it was kept, and was not new")
	}
	if _, e := Keep(u, client, id, r); e != api.ErrArg {
		wrong("it is new twice")
	}
	others := func(l []api.Done) []api.Done {
		return slices.DeleteFunc(deep(l), func(d api.Done) bool { return d.Client == client })
	}
	if !equalAll(others(u), others(l)) {
		wrong("another client's is changed")
	}
	return u
}

// M5: of one call.
func TestFollows(t *testing.T) {
	for _, l := range lists() {
		clients, ids := places(l)
		for i, client := range clients {
			for k, id := range ids {
				checkFollows(t, l, client, id, rightReplies()[(i+k)%len(rightReplies())])
			}
		}
	}
}

// call is one that a way keeps.
type call struct {
	client, id int
	r          api.Reply
}

// checkWay keeps one call behind the other, in a cache that is empty at first, and asks behind each for all clients and Ids: what was kept last of each client is told, and nothing else. It tells how many of the calls were kept, and how often there was no room.
func checkWay(t *testing.T, clients, ids int, way []call) (kept, full int) {
	t.Helper()
	last := map[int]call{}
	var l []api.Done
	for n, c := range way {
		before, was := last[c.client]
		_, e := Keep(l, c.client, c.id, c.r)
		want := api.OK
		switch {
		case was && c.id == before.id:
			want = api.ErrArg
		case was && c.id < before.id:
			want = api.ErrStale
		case !was && len(last) == 8:
			want = api.ErrFull
			full++
		default:
			last[c.client] = c
			kept++
		}
		if e != want {
			t.Fatalf("behind %d calls: Keep(%d, %d) tells %d; want %d", n, c.client, c.id, e, want)
		}
		l = checkFollows(t, l, c.client, c.id, c.r)
		for client := 1; client <= clients; client++ {
			for id := 1; id <= ids; id++ {
				k, is := last[client]
				want, e := k.r, api.OK
				if !is || id > k.id {
					want, e = api.Reply{}, api.ErrNone
				} else if id < k.id {
					want, e = api.Reply{}, api.ErrStale
				}
				if r, got := Look(l, client, id); !equal(r, want) || got != e {
					t.Fatalf("behind %d calls: Look(%d, %d) = %s, %d; want %s, %d", n+1, client, id, say(r), got, say(want), e)
				}
			}
		}
	}
	return kept, full
}

// M5: all ways of five calls of two clients.
func TestAllWays(t *testing.T) {
	var all []call
	for client := 1; client <= 2; client++ {
		for id := 1; id <= 3; id++ {
			all = append(all, call{client: client, id: id})
		}
	}
	for i := range len(all) * len(all) * len(all) * len(all) * len(all) {
		var way []call
		for n := range 5 {
			c := all[i%len(all)]
			c.r = rep(n+1, fmt.Sprint("v", i), "k", fmt.Sprint(n))
			way = append(way, c)
			i /= len(all)
		}
		checkWay(t, 3, 4, way)
	}
}

// next is a number that looks like chance, the same in each run.
func next(seed *uint64) int {
	*seed = *seed*6364136223846793005 + 1442695040888963407
	return int(*seed >> 33)
}

// M5: long ways of ten clients, of whom eight have room.
func TestLongWays(t *testing.T) {
	for seed := range uint64(6) {
		x, way := seed, []call{}
		for n := range 300 {
			c := call{client: next(&x)%10 + 1, id: n/20 + next(&x)%6 + 1}
			c.r = api.Reply{Errno: api.Errno(next(&x) % 256), Rev: n, Value: fmt.Sprint("v", n), Keys: many(4)[0].Reply.Keys[:next(&x)%4]}
			way = append(way, c)
		}
		if kept, full := checkWay(t, 10, 21, way); kept < 40 || full < 10 {
			t.Errorf("%d calls were kept, and %d found no room", kept, full)
		}
	}
}

// The oracle itself: it tells each error of each call, and each call without one.
func TestWantTellsAll(t *testing.T) {
	look, keep := map[api.Errno]int{}, map[api.Errno]int{}
	for _, l := range append(lists(), wrongLists()...) {
		clients, ids := places(l[:min(len(l), 9)])
		for _, client := range append(clients, wrongClients()...) {
			for _, id := range append(ids, wrongIds()...) {
				_, e := wantLook(l, client, id)
				look[e]++
				_, e = wantKeep(l, client, id, api.Reply{Rev: 1})
				keep[e]++
			}
		}
	}
	for _, e := range []api.Errno{0, 1, 70, 81} {
		if look[e] < 20 {
			t.Errorf("Look tells %d %d times", e, look[e])
		}
	}
	for _, e := range []api.Errno{0, 1, 50, 81} {
		if keep[e] < 20 {
			t.Errorf("Keep tells %d %d times", e, keep[e])
		}
	}
	if len(look) != 4 || len(keep) != 4 {
		t.Errorf("told: %v, %v", look, keep)
	}
}

func FuzzKeep(f *testing.F) {
	f.Add(2, 5, 7, "v", "key", 2, 0, "abc", 1, 4)
	f.Add(1000, 1<<53, 1<<53, "", "", 0, 255, "abcdefgh", 3, 5)
	f.Add(-1, 0, -1, "w", "abcdefghijklmnopq", 6, 256, "\x00\x01", -1, -1)
	f.Add(98, 4, 1, "w", "k", 5, 1, "abcdefghi", 8, 2)
	f.Fuzz(func(t *testing.T, client, id, rev int, value, key string, keys, errno int, has string, firstId, more int) {
		r := api.Reply{Errno: api.Errno(errno), Rev: rev, Value: value}
		for range uint(keys) % 8 {
			r.Keys = append(r.Keys, key)
		}
		var l []api.Done
		for i := range min(len(has), 12) {
			l = append(l, done(int(has[i]), firstId, rep(more+i, value, has[i:i+1])))
		}
		if Right(l) != wantRight(l) {
			t.Errorf("Right(%s) = %v", name(l), Right(l))
		}
		for _, c := range []int{client, client & 255} {
			for _, n := range []int{id, firstId - 1, firstId, firstId + 1} {
				told, e := wantLook(l, c, n)
				checkLook(t, l, c, n, told, e)
				want, e := wantKeep(l, c, n, r)
				checkKeep(t, l, c, n, r, want, e)
			}
		}
		if !Same(r, copyOf(r)) || SameAll(l, nil) != (len(l) == 0) || !SameAll(l, deep(l)) {
			t.Error("same")
		}
	})
}
