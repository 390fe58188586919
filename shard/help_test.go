package shard

import (
	"fmt"
	"slices"
	"strings"
	"testing"

	"careen/api"
	"careen/record"
	"careen/table"
)

const most = 1 << 53 // an Epoch, an Id of a call, a Rev

// text is a text of so many bytes.
func text(n int) string {
	return strings.Repeat("x", n)
}

// rec is a record, in few words.
func rec(key, value string, rev int) api.Record {
	return api.Record{Key: key, Value: value, Rev: rev}
}

// laden is a record that carries all that there is.
func laden(key, value string, rev int) api.Record {
	return api.Record{Key: key, Value: value, Rev: rev, Life: 7, Note: "n" + key, Extra: []api.Field{{Tag: 6, Data: "x" + key}, {Tag: 9}, {Tag: 1000000, Data: "\x00\xff"}}}
}

// fullest is a record that has more bytes than any other one of a Key that begins so.
func fullest(begin string) api.Record {
	r := api.Record{Key: begin + text(16-len(begin)), Value: text(200), Rev: most, Life: most, Note: text(40)}
	for i := range 8 {
		r.Extra = append(r.Extra, api.Field{Tag: 999993 + i, Data: text(1000)})
	}
	return r
}

// rep is a reply, in few words.
func rep(rev int, value string, keys ...string) api.Reply {
	return api.Reply{Rev: rev, Value: value, Keys: keys}
}

// fails is a reply that has nothing but an error.
func fails(e api.Errno) api.Reply {
	return api.Reply{Errno: e}
}

// last is a client's last call.
func last(client, id int, r api.Reply) api.Done {
	return api.Done{Client: client, Id: id, Reply: r}
}

// records are so many, whose Keys rise, each third of them laden.
func records(n int) []api.Record {
	var t []api.Record
	for i := range n {
		key := fmt.Sprintf("k%02d", i)
		if i%3 == 0 {
			t = append(t, laden(key, "v"+key, i+1))
		} else {
			t = append(t, rec(key, "v"+key, i+1))
		}
	}
	return t
}

// replies are those of so many clients, 10 and 20 and so on, whose last calls have ten times their number; some have Keys, some an Errno.
func replies(n int) []api.Done {
	var l []api.Done
	for i := range n {
		c := 10 * (i + 1)
		r := rep(c, fmt.Sprint("v", c))
		switch i % 3 {
		case 1:
			r = rep(0, "", fmt.Sprint("k", c), "", text(16))
		case 2:
			r.Errno = api.Errno(70 + i)
		}
		l = append(l, last(c, 10*c, r))
	}
	return l
}

// base is an ordinary shard: three records, of whom the first one is laden, and three clients.
func base() api.Shard {
	return api.Shard{Id: 2, Epoch: 5, Table: records(3), Cache: replies(3)}
}

// based is base with a change.
func based(change func(s *api.Shard)) api.Shard {
	s := base()
	change(&s)
	return s
}

// shards are right, at all edges.
func shards() []api.Shard {
	l := []api.Shard{
		{Epoch: 1},
		{Epoch: 1, Table: []api.Record{}, Cache: []api.Done{}},
		{Id: 7, Epoch: most, Frozen: true},
		{Id: 0, Epoch: most - 1},
		base(),
		based(func(s *api.Shard) { s.Frozen = true }),
		based(func(s *api.Shard) { s.Table = nil }),
		based(func(s *api.Shard) { s.Cache = nil }),
		based(func(s *api.Shard) { s.Table = records(19) }),
		based(func(s *api.Shard) { s.Table = records(20) }),
		based(func(s *api.Shard) { s.Cache = replies(7) }),
		based(func(s *api.Shard) { s.Cache = replies(8) }),
		based(func(s *api.Shard) { s.Table, s.Cache = records(20), replies(8) }),
		based(func(s *api.Shard) { s.Frozen, s.Cache = true, replies(8) }),
		based(func(s *api.Shard) { s.Table[1].Rev = most }),
		based(func(s *api.Shard) { s.Table[0] = fullest("a") }),
		based(func(s *api.Shard) { s.Cache[1].Id = most }),
		{Id: 1, Epoch: 128, Table: []api.Record{rec("\x00", "\xff", 0), laden("\x80", "", 127), rec("\xff", "", 128)}, Cache: []api.Done{last(1, 1, rep(0, "")), last(127, 127, rep(127, text(127))), last(128, 128, rep(128, text(128), "")), last(1000, most, api.Reply{Errno: 255, Rev: most, Value: text(200), Keys: []string{text(16), "", "", "", text(16)}})}},
	}
	for id := range 8 {
		l = append(l, api.Shard{Id: id, Epoch: id + 1, Frozen: id%2 == 1, Table: records(id), Cache: replies(8 - id)})
	}
	return l
}

// wrongShards are those that may not be.
func wrongShards() []api.Shard {
	l := []api.Shard{{}, {Id: 2}, {Frozen: true}}
	for _, id := range []int{-1, 8, 9, -8, 1 << 32, -most} {
		l = append(l, based(func(s *api.Shard) { s.Id = id }))
	}
	for _, epoch := range []int{0, -1, most + 1, -most} {
		l = append(l, based(func(s *api.Shard) { s.Epoch = epoch }))
	}
	for _, t := range [][]api.Record{
		records(21), records(40), make([]api.Record, 1),
		{rec("b", "", 1), rec("a", "", 1)}, {rec("a", "", 1), rec("a", "", 1)},
		{rec("a", text(201), 1)}, {rec("a", "", most+1)}, {rec("a", "", -1)}, {rec(text(17), "", 1)},
		{{Key: "a", Life: most + 1}}, {{Key: "a", Note: text(41)}}, {{Key: "a", Extra: []api.Field{{Tag: 4, Data: "\x07"}}}},
		{{Key: "a", Extra: []api.Field{{Tag: 7}, {Tag: 6}}}}, {{Key: "a", Extra: []api.Field{{Tag: 6, Data: text(1001)}}}},
		{{Key: "a", Extra: append(fullest("").Extra, api.Field{Tag: 1000001})}}, {{Key: "a", Extra: append([]api.Field{{Tag: 6}}, fullest("").Extra...)}},
	} {
		l = append(l, based(func(s *api.Shard) { s.Table = t }))
	}
	for _, c := range [][]api.Done{
		replies(9), replies(20), make([]api.Done, 1),
		{last(2, 1, rep(1, "")), last(1, 1, rep(1, ""))}, {last(1, 1, rep(1, "")), last(1, 2, rep(1, ""))},
		{last(0, 1, rep(1, ""))}, {last(1001, 1, rep(1, ""))}, {last(1, 0, rep(1, ""))}, {last(1, most+1, rep(1, ""))},
		{last(1, 1, rep(-1, ""))}, {last(1, 1, rep(most+1, ""))}, {last(1, 1, rep(1, text(201)))}, {last(1, 1, fails(256))}, {last(1, 1, fails(-1))},
		{last(1, 1, rep(1, "", "", "", "", "", "", ""))}, {last(1, 1, rep(1, "", text(17)))},
	} {
		l = append(l, based(func(s *api.Shard) { s.Cache = c }))
	}
	return l
}

// wantRight is N1 by its words, those of chapters 12 and 13 among them.
func wantRight(s api.Shard) bool {
	if s.Id < 0 || s.Id > 7 || s.Epoch < 1 || s.Epoch > most || len(s.Table) > 20 || len(s.Cache) > 8 {
		return false
	}
	for i, r := range s.Table {
		if !record.Right(2, r) || i > 0 && r.Key <= s.Table[i-1].Key {
			return false
		}
	}
	for i, d := range s.Cache {
		r := d.Reply
		if d.Client < 1 || d.Client > 1000 || i > 0 && d.Client <= s.Cache[i-1].Client || d.Id < 1 || d.Id > most {
			return false
		}
		if r.Rev < 0 || r.Rev > most || len(r.Value) > 200 || len(r.Keys) > 5 || r.Errno < 0 || r.Errno > 255 || slices.ContainsFunc(r.Keys, func(k string) bool { return len(k) > 16 }) {
			return false
		}
	}
	return true
}

// wantAsk is N2 by its words: the cache is gone through one by one, and put in order at last.
func wantAsk(v int, s api.Shard, c api.Call) (api.Shard, api.Reply, bool) {
	u := deep(s)
	switch {
	case !wantRight(s) || v < 1 || v > 2 || c.Client < 1 || c.Client > 1000 || c.Id < 1 || c.Id > most:
		return u, fails(1), false
	case c.Shard != s.Id:
		return u, fails(83), false
	case c.Epoch != s.Epoch:
		return u, fails(80), false
	case table.Check(v, c.Op) != 0:
		return u, fails(table.Check(v, c.Op)), false
	}
	t, r := table.Do(deep(s).Table, c.Op)
	if c.Op.Kind == 1 || c.Op.Kind == 6 {
		return u, r, false
	}
	var others []api.Done
	for _, d := range u.Cache {
		switch {
		case d.Client != c.Client:
			others = append(others, d)
		case d.Id == c.Id:
			return u, d.Reply, false
		case d.Id > c.Id:
			return u, fails(81), false
		}
	}
	switch {
	case s.Frozen:
		return u, fails(82), false
	case len(others) == 8:
		return u, fails(50), false
	}
	u.Table = t
	u.Cache = append(others, last(c.Client, c.Id, r))
	slices.SortFunc(u.Cache, func(a, b api.Done) int { return a.Client - b.Client })
	return u, r, true
}

// equalReply, equalRecord, equalDone and equal hold all of two against each other, without the program's help.
func equalReply(a, b api.Reply) bool {
	return a.Errno == b.Errno && a.Rev == b.Rev && a.Value == b.Value && slices.Equal(a.Keys, b.Keys)
}

func equalRecord(a, b api.Record) bool {
	return a.Key == b.Key && a.Value == b.Value && a.Rev == b.Rev && a.Life == b.Life && a.Note == b.Note && slices.Equal(a.Extra, b.Extra)
}

func equalDone(a, b api.Done) bool {
	return a.Client == b.Client && a.Id == b.Id && equalReply(a.Reply, b.Reply)
}

func equal(a, b api.Shard) bool {
	return a.Id == b.Id && a.Epoch == b.Epoch && a.Frozen == b.Frozen && slices.EqualFunc(a.Table, b.Table, equalRecord) && slices.EqualFunc(a.Cache, b.Cache, equalDone)
}

// deep is a shard in memory of its own.
func deep(s api.Shard) api.Shard {
	var t []api.Record
	for _, r := range s.Table {
		r.Extra = append([]api.Field(nil), r.Extra...)
		t = append(t, r)
	}
	var l []api.Done
	for _, d := range s.Cache {
		d.Reply.Keys = append([]string(nil), d.Reply.Keys...)
		l = append(l, d)
	}
	s.Table, s.Cache = t, l
	return s
}

// watch tells whether any of its lists was written into, or what stands around them.
type watch struct {
	written []func() bool
}

func (w *watch) tells() bool {
	return slices.ContainsFunc(w.written, func(is func() bool) bool { return is() })
}

// wedged is a list that stands between others, which is watched.
func wedged[T any](w *watch, l []T, other T, same func(a, b T) bool) []T {
	wide := slices.Concat([]T{other}, l, []T{other, other})
	was := slices.Clone(wide)
	w.written = append(w.written, func() bool { return !slices.EqualFunc(wide, was, same) })
	return wide[1 : 1+len(l)]
}

// held is a shard whose lists, and whose lists' lists, stand between others, and are watched.
func held(s api.Shard) (api.Shard, *watch) {
	w := &watch{}
	s = deep(s)
	for i := range s.Table {
		s.Table[i].Extra = wedged(w, s.Table[i].Extra, api.Field{Tag: 8, Data: "other"}, func(a, b api.Field) bool { return a == b })
	}
	for i := range s.Cache {
		s.Cache[i].Reply.Keys = wedged(w, s.Cache[i].Reply.Keys, "other", func(a, b string) bool { return a == b })
	}
	s.Table = wedged(w, s.Table, laden("other", "o", 3), equalRecord)
	s.Cache = wedged(w, s.Cache, last(500, 5, rep(5, "o", "other")), equalDone)
	return s, w
}

// overwrite writes into all of a list, spare room too, and grows it.
func overwrite[T any](l []T, x T) {
	all := l[:cap(l)]
	for i := range all {
		all[i] = x
	}
	_ = append(l, x, x)
}

// overwriteAll writes into all lists of a shard, and tells whether one of them was another one's memory, too.
func overwriteAll(s api.Shard) bool {
	was, shared := deep(s), false
	for i := range s.Table {
		overwrite(s.Table[i].Extra, api.Field{Tag: 77, Data: "over"})
		was.Table[i].Extra = slices.Clone(s.Table[i].Extra)
		shared = shared || !equal(s, was)
	}
	for i := range s.Cache {
		overwrite(s.Cache[i].Reply.Keys, "over")
		was.Cache[i].Reply.Keys = slices.Clone(s.Cache[i].Reply.Keys)
		shared = shared || !equal(s, was)
	}
	overwrite(s.Table, rec("over", "over", 77))
	overwrite(s.Cache, last(777, 77, rep(77, "over")))
	return shared
}

// say is anything in a few words, whatever bytes it has.
func say(x any) string {
	return fmt.Sprintf("%.300q", fmt.Sprint(x))
}

// next is a number that looks like chance, the same in each run.
func next(seed *uint64) int {
	*seed = *seed*6364136223846793005 + 1442695040888963407
	return int(*seed >> 33)
}

// call is one of base's shard and epoch.
func call(client, id int, o api.Op) api.Call {
	return api.Call{Shard: 2, Epoch: 5, Client: client, Id: id, Op: o}
}

// of is a call as one of a shard, in its epoch.
func of(s api.Shard, c api.Call) api.Call {
	c.Shard, c.Epoch = s.Id, s.Epoch
	return c
}

func put(key, value string) api.Op { return api.Op{Kind: api.OpPut, Key: key, Value: value} }

func get(key string) api.Op { return api.Op{Kind: api.OpGet, Key: key} }

func remove(key string) api.Op { return api.Op{Kind: api.OpDelete, Key: key} }

func cas(key, value string, rev int) api.Op {
	return api.Op{Kind: api.OpCas, Key: key, Value: value, Rev: rev}
}

func mark(key string, life int, note string) api.Op {
	return api.Op{Kind: api.OpMark, Key: key, Life: life, Note: note}
}

func scan(key, to string) api.Op { return api.Op{Kind: api.OpScan, Key: key, To: to} }

// checkAsk holds Ask to what is to be told, and asks that nothing that was handed in is written into, and that what comes out is new memory, but where it is as it was.
func checkAsk(t *testing.T, v int, s api.Shard, c api.Call, want api.Shard, r api.Reply, changed bool) {
	t.Helper()
	asked := func() string { return fmt.Sprintf("Ask(%d, %s, %s)", v, say(s), say(c)) }
	in, watched := held(s)
	for _, again := range []string{"", ", asked again"} {
		u, got, is := Ask(v, in, c)
		if !equal(u, want) || !equalReply(got, r) || is != changed {
			t.Errorf("%s%s = %s, %s, %v; want %s, %s, %v", asked(), again, say(u), say(got), is, say(want), say(r), changed)
		}
		if watched.tells() {
			t.Errorf("%s wrote into what was handed in", asked())
		}
		was := deep(u)
		overwrite(got.Keys, "over")
		if !equal(u, was) || watched.tells() {
			t.Errorf("%s replies with memory that is the shard's", asked())
		}
		if is && overwriteAll(u) {
			t.Errorf("%s gives out a list twice", asked())
		}
		if watched.tells() {
			t.Errorf("%s gives out what was handed in", asked())
		}
	}
	if u, got, is := Ask(v, s, c); !equal(u, want) || !equalReply(got, r) || is != changed { // as it is: no lists at all, among others
		t.Errorf("%s, as it is = %s, %s, %v", asked(), say(u), say(got), is)
	}
}

// checkRefused asks that a call changes nothing, and is replied so.
func checkRefused(t *testing.T, v int, s api.Shard, c api.Call, r api.Reply) {
	t.Helper()
	checkAsk(t, v, s, c, s, r, false)
}

// checkWords holds a call against N2's words.
func checkWords(t *testing.T, v int, s api.Shard, c api.Call) {
	t.Helper()
	want, r, changed := wantAsk(v, s, c)
	checkAsk(t, v, s, c, want, r, changed)
}
