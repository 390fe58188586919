package table

import (
	"fmt"
	"math"
	"slices"
	"strings"
	"testing"

	"careen/api"
	"careen/record"
)

const most = 1 << 53 // a Rev, a Life

// rec is a record, in few words.
func rec(key, value string, rev int) api.Record {
	return api.Record{Key: key, Value: value, Rev: rev}
}

// laden is a record that carries all that there is.
func laden(key, value string, rev int) api.Record {
	return api.Record{Key: key, Value: value, Rev: rev, Life: 7, Note: "n" + key, Extra: []api.Field{{Tag: 6, Data: "x" + key}, {Tag: 9}, {Tag: 1000000, Data: "\x00\xff"}}}
}

// op is an op without more than each may have.
func op(kind int, key, value string, rev int) api.Op {
	return api.Op{Kind: kind, Key: key, Value: value, Rev: rev}
}

// text is a text of so many bytes.
func text(n int) string {
	return strings.Repeat("x", n)
}

// many are so many records, whose Keys rise, each third of them laden.
func many(n int) []api.Record {
	var t []api.Record
	for i := range n {
		key := fmt.Sprintf("k%02d", i)
		if i%3 == 0 {
			t = append(t, laden(key, "v"+key, i))
		} else {
			t = append(t, rec(key, "v"+key, i))
		}
	}
	return t
}

// deep is a table in memory of its own.
func deep(t []api.Record) []api.Record {
	var all []api.Record
	for _, r := range t {
		r.Extra = append([]api.Field(nil), r.Extra...)
		all = append(all, r)
	}
	return all
}

// with is a table in which one record is another one.
func with(t []api.Record, i int, r api.Record) []api.Record {
	t = deep(t)
	t[i] = r
	return t
}

// tables are right, at all edges.
func tables() [][]api.Record {
	l := [][]api.Record{
		nil,
		{},
		{rec("a", "", 0)},
		{rec("a", "x", 1)},
		{laden("b", "y", 2)},
		{rec("a", "x", most)},
		{rec("a", "x", most-1)},
		{rec("\x00", "", 1), rec("a", "", 1), rec("a\x00", "", 1), rec("aa", "", 1), rec("b", "", 1), rec("\x80", "", 1), rec("\xff", "", 1)},
		{rec("a", "x", 3), laden("c", "y", 1), laden("e", "z", most), {Key: "g", Rev: 1, Life: most, Note: text(40)}},
		{rec(text(15), "", 1), laden(text(16), text(200), 1), rec(text(14)+"y", "", 1)},
		{laden("a", "same", 1), laden("b", "same", 1), laden("c", "same", 1)},
	}
	for _, n := range []int{1, 2, 4, 5, 6, 7, 18, 19, 20} {
		l = append(l, many(n))
	}
	return append(l, with(many(20), 7, laden("k07", "v", most)), with(many(19), 18, rec("k18", "v", most)))
}

// wrongTables are those that may not be.
func wrongTables() [][]api.Record {
	a, b, c := rec("a", "", 1), rec("b", "", 1), rec("c", "", 1)
	l := [][]api.Record{
		many(21), many(22), many(40), many(300),
		make([]api.Record, 1), make([]api.Record, 3), make([]api.Record, 21), // no Key
		{a, a}, {a, b, b}, {a, a, b}, {a, b, a}, {a, laden("a", "y", 9)}, // twice
		{b, a}, {a, c, b}, {c, a, b}, {c, b, a}, {rec("aa", "", 1), a}, {rec("a\x00", "", 1), a}, {rec("\xff", "", 1), rec("\x7f", "", 1)}, {rec("b", "", 1), rec("aaaa", "", 1)}, // falling
	}
	for _, r := range wrongRecords() {
		l = append(l, []api.Record{r}, []api.Record{rec("\x01", "", 1), r}, []api.Record{r, rec("z", "", 1)}, append(many(19), r))
	}
	return l
}

// wrongRecords may not be by version 2: but for the first two each has a Key between 1 and z.
func wrongRecords() []api.Record {
	return []api.Record{
		{}, {Key: "", Value: "v", Rev: 1},
		{Key: text(17)},
		{Key: "x", Value: text(201)},
		{Key: "x", Rev: -1}, {Key: "x", Rev: most + 1}, {Key: "x", Rev: math.MinInt}, {Key: "x", Rev: math.MaxInt},
		{Key: "x", Life: -1}, {Key: "x", Life: most + 1},
		{Key: "x", Note: text(41)},
		{Key: "x", Extra: []api.Field{{Tag: 4, Data: "\x07"}}}, // by version 1 these two are right
		{Key: "x", Extra: []api.Field{{Tag: 5, Data: "n"}}},
		{Key: "x", Extra: []api.Field{{Tag: 3, Data: "\x01"}}}, {Key: "x", Extra: []api.Field{{Tag: 0}}}, {Key: "x", Extra: []api.Field{{Tag: 1000001}}},
		{Key: "x", Extra: []api.Field{{Tag: 7}, {Tag: 6}}}, {Key: "x", Extra: []api.Field{{Tag: 7}, {Tag: 7}}},
		{Key: "x", Extra: []api.Field{{Tag: 6, Data: text(1001)}}},
		{Key: "x", Extra: []api.Field{{Tag: 6}, {Tag: 7}, {Tag: 8}, {Tag: 9}, {Tag: 10}, {Tag: 11}, {Tag: 12}, {Tag: 13}, {Tag: 14}}},
	}
}

// rightOps may be, by version 2, at all edges, for a table's Keys and those between them.
func rightOps(t []api.Record) []api.Op {
	keys := []string{"a", "b", "\x00", "~", "\xff\xff", text(16)}
	for _, r := range t {
		keys = append(keys, r.Key)
		if len(r.Key) < 16 {
			keys = append(keys, r.Key+"\x00")
		}
	}
	l := []api.Op{{Kind: 6}, {Kind: 6, To: "a"}, {Kind: 6, To: text(16)}, {Kind: 6, Rev: 1, Value: "v", Life: 2, Note: "n"}}
	for _, key := range keys {
		for kind := 1; kind <= 6; kind++ {
			l = append(l, op(kind, key, "new", 0), op(kind, key, "", 1), api.Op{Kind: kind, Key: key, Value: text(200), Rev: most, To: "to", Life: most, Note: text(40)}, api.Op{Kind: kind, Key: key, Life: 1}, api.Op{Kind: kind, Key: key, Note: "m"})
		}
		for _, r := range t {
			if r.Key == key {
				l = append(l, op(4, key, "cas", r.Rev), op(4, key, r.Value, min(r.Rev+1, most)), op(2, key, r.Value, 0), api.Op{Kind: 5, Key: key, Life: r.Life, Note: r.Note})
			}
		}
		for i, to := range append(keys, "") {
			if i%3 == len(key)%3 {
				l = append(l, api.Op{Kind: 6, Key: key, To: to}, api.Op{Kind: 6, To: to})
			}
		}
	}
	return l
}

// wrongOps may not be, by either version.
func wrongOps() []api.Op {
	l := []api.Op{{}, {Key: "a"}, {Kind: 6, Key: text(17)}, {Kind: 6, To: text(17)}}
	for _, kind := range []int{0, -1, 7, 8, 255, 256 + 2, 1<<32 + 2, math.MinInt + 2, math.MinInt, math.MaxInt} {
		l = append(l, op(kind, "a", "v", 1), op(kind, "", "", 0))
	}
	for kind := 1; kind <= 6; kind++ {
		if kind < 6 {
			l = append(l, op(kind, "", "v", 0))
		}
		l = append(l, op(kind, text(17), "v", 0), op(kind, text(300), "v", 0), op(kind, "a", text(201), 0), op(kind, "a", text(300), 0))
		l = append(l, api.Op{Kind: kind, Key: "a", To: text(17)}, api.Op{Kind: kind, Key: "a", To: text(300)}, api.Op{Kind: kind, Key: "a", Note: text(41)}, api.Op{Kind: kind, Key: "a", Note: text(300)})
		for _, n := range []int{-1, most + 1, math.MinInt, math.MaxInt, -most} {
			l = append(l, op(kind, "a", "v", n), api.Op{Kind: kind, Key: "a", Value: "v", Life: n})
		}
	}
	return l
}

// equal is what Same is to tell, without its help.
func equal(a, b []api.Record) bool {
	if len(a) != len(b) {
		return false
	}
	for i, r := range a {
		q := b[i]
		if r.Key != q.Key || r.Value != q.Value || r.Rev != q.Rev || r.Life != q.Life || r.Note != q.Note || !slices.Equal(r.Extra, q.Extra) {
			return false
		}
	}
	return true
}

func equalReply(a, b api.Reply) bool {
	return a.Errno == b.Errno && a.Rev == b.Rev && a.Value == b.Value && slices.Equal(a.Keys, b.Keys)
}

// wantRight is promise L1 by its words.
func wantRight(t []api.Record) bool {
	ahead := ""
	for i, r := range t {
		if i == 20 || !record.Right(2, r) || r.Key <= ahead {
			return false
		}
		ahead = r.Key
	}
	return true
}

// wantCheck is promise L2 by its words.
func wantCheck(v int, o api.Op) api.Errno {
	least := map[int]int{1: 1, 2: 1, 3: 1, 4: 1, 5: 1, 6: 0}
	n, is := least[o.Kind]
	ok := (v == 1 || v == 2) && is && len(o.Key) >= n && len(o.Key) <= 16 && len(o.Value) <= 200 && len(o.To) <= 16 && len(o.Note) <= 40 && o.Rev >= 0 && o.Rev <= most && o.Life >= 0 && o.Life <= most
	if !ok {
		return 1
	}
	if v == 1 && o.Kind == 5 {
		return 22
	}
	return 0
}

// wantDo is promise L3 by its words: of records by their Keys, which are put in order at last.
func wantDo(t []api.Record, o api.Op) ([]api.Record, api.Reply) {
	if !wantRight(t) || wantCheck(2, o) != 0 {
		return t, api.Reply{Errno: 1}
	}
	all := map[string]api.Record{}
	for _, r := range t {
		all[r.Key] = r
	}
	if o.Kind == 6 {
		return t, api.Reply{Keys: wantScan(all, o)}
	}
	r, is := all[o.Key]
	full := !is && len(t) == 20 || is && r.Rev == most
	if !is && (o.Kind == 1 || o.Kind == 3 || o.Kind == 5) {
		return t, api.Reply{Errno: 70}
	}
	if o.Kind == 1 {
		return t, api.Reply{Rev: r.Rev, Value: r.Value}
	}
	if o.Kind == 4 && o.Rev != r.Rev {
		return t, api.Reply{Errno: 71, Rev: r.Rev}
	}
	if o.Kind != 3 && full {
		return t, api.Reply{Errno: 50}
	}
	answer := r.Rev
	if o.Kind == 3 {
		delete(all, o.Key)
	} else {
		r.Key, r.Rev, answer = o.Key, r.Rev+1, r.Rev+1
		if o.Kind == 5 {
			r.Life, r.Note = o.Life, o.Note
		} else {
			r.Value = o.Value
		}
		all[o.Key] = r
	}
	var u []api.Record
	for _, key := range sorted(all) {
		u = append(u, all[key])
	}
	return u, api.Reply{Rev: answer}
}

func wantScan(all map[string]api.Record, o api.Op) []string {
	keys := slices.DeleteFunc(sorted(all), func(key string) bool {
		return key < o.Key || len(o.To) > 0 && !(key < o.To)
	})
	return keys[:min(len(keys), 5)]
}

func sorted(all map[string]api.Record) []string {
	var keys []string
	for key := range all {
		keys = append(keys, key)
	}
	slices.Sort(keys)
	return keys
}

// held is a table that stands between other records, its lists between other fields, and what tells whether any of them was written into.
func held(t []api.Record) ([]api.Record, func() bool) {
	now := slices.Concat([]api.Record{laden("ahead", "", 1)}, t, []api.Record{laden("behind", "", 2), {}, laden("more", "", 3)})
	var wide, wasWide [][]api.Field
	for i, r := range now {
		w := slices.Concat([]api.Field{{Tag: 1, Data: "ahead"}}, r.Extra, []api.Field{{Tag: 2, Data: "behind"}, {}, {Tag: 3}})
		now[i].Extra = w[1 : 1+len(r.Extra)]
		wide, wasWide = append(wide, w), append(wasWide, slices.Clone(w))
	}
	was := deep(now)
	return now[1 : 1+len(t)], func() bool {
		return !equal(now, was) || !slices.EqualFunc(wide, wasWide, slices.Equal)
	}
}

// overwrite writes into all of a list, spare room too, and grows it.
func overwrite[T any](l []T, x T) {
	all := l[:cap(l)]
	for i := range all {
		all[i] = x
	}
	_ = append(l, x, x)
}

// overwriteAll writes into all of a table, its lists too, and tells whether a list of one record was another one's, too.
func overwriteAll(t []api.Record) bool {
	was, shared := deep(t), false
	for i := range t {
		overwrite(t[i].Extra, api.Field{Tag: -7, Data: "over"})
		was[i].Extra = slices.Clone(t[i].Extra)
		shared = shared || !equal(t, was)
	}
	overwrite(t, laden("over", "over", -7))
	return shared
}

// say is anything in a few words, whatever bytes it has.
func say(x any) string {
	return fmt.Sprintf("%.400q", fmt.Sprint(x))
}

// name is a table in a few words.
func name(t []api.Record) string {
	if len(t) > 6 {
		return fmt.Sprintf("%d records, %s ..", len(t), say(t[:2]))
	}
	return say(t)
}

// checkDo holds Do to what is to be told, and asks that nothing that was handed in is written into, or given out where something changed.
func checkDo(t *testing.T, l []api.Record, o api.Op, want []api.Record, reply api.Reply) {
	t.Helper()
	call := fmt.Sprintf("Do(%s, %s)", name(l), say(o))
	in, written := held(l)
	u, r := Do(in, o)
	if !equal(u, want) || !equalReply(r, reply) {
		t.Errorf("%s = %s, %s; want %s, %s", call, name(u), say(r), name(want), say(reply))
	}
	if written() {
		t.Errorf("%s wrote into what was handed in", call)
	}
	overwrite(r.Keys, "over")
	if equal(l, want) {
		return // what is as it was may be what was handed in
	}
	if overwriteAll(u) {
		t.Errorf("%s gives out a list twice", call)
	}
	if written() {
		t.Errorf("%s gives out what was handed in", call)
	}
	if u, r := Do(in, o); !equal(u, want) || !equalReply(r, reply) {
		t.Errorf("%s, asked again = %s, %s; want %s, %s", call, name(u), say(r), name(want), say(reply))
	}
}

// checkAsWas asks that the table is as it was.
func checkAsWas(t *testing.T, l []api.Record, o api.Op, reply api.Reply) {
	t.Helper()
	checkDo(t, l, o, l, reply)
}

// checkErr asks that an op is refused, and nothing else is told.
func checkErr(t *testing.T, l []api.Record, o api.Op, e api.Errno) {
	t.Helper()
	checkAsWas(t, l, o, api.Reply{Errno: e})
}

// checkRev asks that an op changes the table, and tells a Rev alone.
func checkRev(t *testing.T, l []api.Record, o api.Op, want []api.Record, rev int) {
	t.Helper()
	checkDo(t, l, o, want, api.Reply{Rev: rev})
}

func checkKeys(t *testing.T, l []api.Record, from, to string, keys ...string) {
	t.Helper()
	checkAsWas(t, l, api.Op{Kind: 6, Key: from, To: to}, api.Reply{Keys: keys})
}

// The chapter's example.
func TestExample(t *testing.T) {
	one, two := []api.Record{rec("a", "x", 1)}, []api.Record{rec("a", "y", 2)}
	checkRev(t, nil, op(api.OpPut, "a", "x", 0), one, 1)
	checkRev(t, one, op(api.OpCas, "a", "y", 1), two, 2)
	checkAsWas(t, two, op(api.OpCas, "a", "y", 1), api.Reply{Errno: api.ErrRev, Rev: 2})
}

// L1: what is right, and what is not; neither is written into.
func TestRight(t *testing.T) {
	for i, list := range [][][]api.Record{tables(), wrongTables()} {
		for _, l := range list {
			in, written := held(l)
			if Right(in) != (i == 0) || wantRight(in) != (i == 0) {
				t.Errorf("Right(%s) is not %v", name(l), i == 0)
			}
			if written() {
				t.Errorf("Right(%s) wrote into it", name(l))
			}
		}
	}
	for n, want := range map[int]bool{0: true, 1: true, 19: true, 20: true, 21: false, 276: false} {
		if Right(many(n)) != want {
			t.Errorf("Right of %d records is not %v", n, want)
		}
	}
}

// L1: each wrong record at each place of each length.
func TestRightEachPlace(t *testing.T) {
	for n := 1; n <= 20; n++ {
		for i := range n {
			l := many(n)
			l[i].Rev = -1
			if Right(l) {
				t.Errorf("%d records: right, with the Rev -1 at %d", n, i)
			}
			l[i] = laden(l[i].Key, text(201), 1)
			if Right(l) {
				t.Errorf("%d records: right, with a Value that is too long at %d", n, i)
			}
			if l = many(n); i > 0 {
				l[i].Key = l[i-1].Key
				if Right(l) {
					t.Errorf("%d records: right, with the Key of %d twice", n, i)
				}
				l = many(n)
				l[i], l[i-1] = l[i-1], l[i]
				if Right(l) {
					t.Errorf("%d records: right, with %d ahead of the one ahead", n, i)
				}
			}
		}
	}
}

// L1: Same asks each field of each record, and their order; right or not.
func TestSame(t *testing.T) {
	all := append(tables(), wrongTables()...)
	for i, a := range all {
		for j, b := range all {
			in, written := held(a)
			if want := equal(a, b); Same(in, b) != want || Same(b, in) != want || i == j && !want {
				t.Errorf("Same(%s, %s) is not %v", name(a), name(b), want)
			}
			if written() {
				t.Errorf("Same(%s, ..) wrote into it", name(a))
			}
		}
	}
	if !Same(nil, []api.Record{}) || !Same([]api.Record{}, nil) || Same(nil, make([]api.Record, 1)) {
		t.Error("no table, and an empty one")
	}
}

// L1: each field, changed in one record of three.
func TestSameEachField(t *testing.T) {
	was := []api.Record{laden("a", "x", 1), laden("b", "x", 1), rec("c", "x", 1)}
	changes := []func(r *api.Record){
		func(r *api.Record) { r.Key += "k" },
		func(r *api.Record) { r.Value = "y" },
		func(r *api.Record) { r.Rev++ },
		func(r *api.Record) { r.Life++ },
		func(r *api.Record) { r.Note += "m" },
		func(r *api.Record) { r.Extra = append(r.Extra, api.Field{Tag: 7}) },
		func(r *api.Record) { *r = api.Record{} },
	}
	for i := range was {
		for k, change := range changes {
			l := deep(was)
			change(&l[i])
			if Same(l, was) || Same(was, l) {
				t.Errorf("change %d of %d is the same", k, i)
			}
		}
		if l := slices.Delete(deep(was), i, i+1); Same(l, was) || Same(was, l) {
			t.Errorf("without %d it is the same", i)
		}
	}
	l := deep(was)
	l[0].Extra[1].Data = "y"
	m := []api.Record{was[1], was[0], was[2]}
	if Same(l, was) || Same(m, was) || !Same(deep(was), was) {
		t.Error("a field's Data, or the order, is not asked; or a copy is not the same")
	}
}

// checkChecked holds Check to what each version is to tell; a version that is none tells ErrArg.
func checkChecked(t *testing.T, o api.Op, one, two api.Errno) {
	t.Helper()
	for _, v := range []int{1, 2, 0, 3, -1, 4, 257, 258, 1<<32 + 1, 1<<32 + 2, math.MinInt, math.MaxInt} {
		want := map[int]api.Errno{1: one, 2: two}
		e, is := want[v]
		if !is {
			e = api.ErrArg
		}
		if got := Check(v, o); got != e || wantCheck(v, o) != e {
			t.Errorf("Check(%d, %s) = %d; want %d", v, say(o), got, e)
		}
	}
}

// L2: written out, at each edge, alone.
func TestCheckEdges(t *testing.T) {
	for kind := 1; kind <= 6; kind++ {
		one := map[bool]api.Errno{true: api.ErrVersion}[kind == 5]
		short := map[bool]api.Errno{true: api.ErrArg}[kind != 6]
		for _, c := range []struct {
			o        api.Op
			one, two api.Errno
		}{
			{op(kind, "", "", 0), short, short},
			{op(kind, "a", "", 0), one, 0},
			{op(kind, "\x00", "\x00", 0), one, 0},
			{op(kind, text(15), "", 0), one, 0},
			{op(kind, text(16), "", 0), one, 0},
			{op(kind, text(17), "", 0), 1, 1},
			{op(kind, "a", text(200), 0), one, 0},
			{op(kind, "a", text(201), 0), 1, 1},
			{op(kind, "a", "", -1), 1, 1},
			{op(kind, "a", "", 1), one, 0},
			{op(kind, "a", "", most), one, 0},
			{op(kind, "a", "", most+1), 1, 1},
			{api.Op{Kind: kind, Key: "a", To: text(16)}, one, 0},
			{api.Op{Kind: kind, Key: "a", To: text(17)}, 1, 1},
			{api.Op{Kind: kind, Key: "a", Life: -1}, 1, 1},
			{api.Op{Kind: kind, Key: "a", Life: 1}, one, 0},
			{api.Op{Kind: kind, Key: "a", Life: most}, one, 0},
			{api.Op{Kind: kind, Key: "a", Life: most + 1}, 1, 1},
			{api.Op{Kind: kind, Key: "a", Note: text(40)}, one, 0},
			{api.Op{Kind: kind, Key: "a", Note: text(41)}, 1, 1},
			{api.Op{Kind: kind, Key: text(16), Value: text(200), Rev: most, To: text(16), Life: most, Note: text(40)}, one, 0},
		} {
			checkChecked(t, c.o, c.one, c.two)
		}
	}
	checkChecked(t, op(0, "a", "", 0), 1, 1)
	checkChecked(t, op(7, "a", "", 0), 1, 1)
}

// L2: all ops.
func TestCheckByTheWords(t *testing.T) {
	for _, o := range wrongOps() {
		checkChecked(t, o, api.ErrArg, api.ErrArg)
	}
	for _, o := range rightOps(many(3)) {
		one := api.OK
		if o.Kind == api.OpMark {
			one = api.ErrVersion
		}
		checkChecked(t, o, one, api.OK)
	}
}

// L2: Writes hangs on the Kind alone, whether the op may be or not.
func TestWrites(t *testing.T) {
	for kind := -300; kind <= 300; kind++ {
		want := kind >= 2 && kind <= 5
		for _, o := range []api.Op{{Kind: kind}, op(kind, "a", "v", 1), {Kind: kind, Key: text(99), Rev: -1, Life: -1, Note: text(99)}} {
			if Writes(o) != want {
				t.Errorf("Writes of the Kind %d is not %v", kind, want)
			}
		}
	}
	for _, kind := range []int{1<<32 + 2, math.MinInt + 2, math.MaxInt, math.MinInt, 1<<16 + 3} {
		if Writes(api.Op{Kind: kind, Key: "a"}) {
			t.Errorf("Writes of the Kind %d", kind)
		}
	}
}

// L2: what Writes does not name changes nothing; each kind that it names can.
func TestWritesChanges(t *testing.T) {
	changed := map[int]int{}
	for _, l := range tables() {
		for _, o := range rightOps(l) {
			if u, _ := Do(l, o); !equal(u, l) {
				changed[o.Kind]++
			}
		}
	}
	for kind := 1; kind <= 6; kind++ {
		if Writes(api.Op{Kind: kind}) != (changed[kind] > 0) {
			t.Errorf("the Kind %d changed a table %d times", kind, changed[kind])
		}
	}
}

// base is a table for what is written out.
func base() []api.Record {
	return []api.Record{rec("b", "x", 3), laden("d", "y", 0), laden("f", "z", most)}
}

// L3: OpGet, written out.
func TestGet(t *testing.T) {
	checkAsWas(t, base(), op(1, "b", "", 0), api.Reply{Rev: 3, Value: "x"})
	checkAsWas(t, base(), op(1, "d", "", 0), api.Reply{Value: "y"})
	checkAsWas(t, base(), op(1, "f", "w", 7), api.Reply{Rev: most, Value: "z"})
	checkAsWas(t, []api.Record{rec("a", "", 1)}, op(1, "a", "", 0), api.Reply{Rev: 1})
	checkAsWas(t, []api.Record{rec(text(16), text(200), 1)}, op(1, text(16), "", 0), api.Reply{Rev: 1, Value: text(200)})
	for _, key := range []string{"a", "c", "e", "g", "bb", "b\x00", "B"} {
		checkErr(t, base(), op(1, key, "", 0), api.ErrNone)
		checkErr(t, nil, op(1, key, "", 0), api.ErrNone)
		checkErr(t, []api.Record{}, op(1, key, "", 0), api.ErrNone)
	}
}

// L3: OpPut, written out: of a key that there is, and of new ones at each place.
func TestPut(t *testing.T) {
	l := base()
	checkRev(t, l, op(2, "b", "new", 0), with(l, 0, rec("b", "new", 4)), 4)
	checkRev(t, l, op(2, "b", "x", 99), with(l, 0, rec("b", "x", 4)), 4)
	checkRev(t, l, op(2, "b", "", 0), with(l, 0, rec("b", "", 4)), 4)
	d := l[1]
	d.Value, d.Rev = text(200), 1
	checkRev(t, l, api.Op{Kind: 2, Key: "d", Value: text(200), To: "t", Life: 99, Note: "no"}, with(l, 1, d), 1)
	for i, key := range []string{"a", "c", "e", "g"} {
		checkRev(t, l, api.Op{Kind: 2, Key: key, Value: "v", Rev: 9, Life: 9, Note: "n"}, slices.Insert(deep(l), i, rec(key, "v", 1)), 1)
		checkRev(t, nil, op(2, key, "", 0), []api.Record{rec(key, "", 1)}, 1)
		checkRev(t, []api.Record{}, op(2, key, "", 0), []api.Record{rec(key, "", 1)}, 1)
	}
	checkRev(t, []api.Record{rec("a", "x", most-1)}, op(2, "a", "y", 0), []api.Record{rec("a", "y", most)}, most)
	checkErr(t, []api.Record{rec("a", "x", most)}, op(2, "a", "y", 0), api.ErrFull)
	checkErr(t, l, op(2, "f", "new", 0), api.ErrFull)
}

// L3: OpDelete, written out; a Rev that may not rise is no hindrance.
func TestDelete(t *testing.T) {
	l := base()
	checkRev(t, l, op(3, "b", "", 0), l[1:], 3)
	checkRev(t, l, op(3, "d", "v", 7), []api.Record{l[0], l[2]}, 0)
	checkRev(t, l, op(3, "f", "", 0), l[:2], most)
	checkRev(t, l[:1], op(3, "b", "", 0), nil, 3)
	for _, key := range []string{"a", "c", "e", "g"} {
		checkErr(t, l, op(3, key, "", 0), api.ErrNone)
		checkErr(t, nil, op(3, key, "", 0), api.ErrNone)
		checkErr(t, []api.Record{}, op(3, key, "", 0), api.ErrNone)
	}
}

// L3: OpCas, written out: of a key that there is, of a record of the Rev 0, and of a key that there is not.
func TestCas(t *testing.T) {
	l := base()
	checkRev(t, l, op(4, "b", "new", 3), with(l, 0, rec("b", "new", 4)), 4)
	for _, rev := range []int{0, 1, 2, 4, most} {
		checkAsWas(t, l, op(4, "b", "new", rev), api.Reply{Errno: api.ErrRev, Rev: 3})
	}
	d := l[1]
	d.Value, d.Rev = "new", 1
	checkRev(t, l, api.Op{Kind: 4, Key: "d", Value: "new", Life: 99, Note: "no"}, with(l, 1, d), 1)
	checkAsWas(t, l, op(4, "d", "new", 1), api.Reply{Errno: api.ErrRev})
	checkErr(t, l, op(4, "f", "new", most), api.ErrFull)
	checkAsWas(t, l, op(4, "f", "new", most-1), api.Reply{Errno: api.ErrRev, Rev: most})
	for i, key := range []string{"a", "c", "e", "g"} {
		checkRev(t, l, op(4, key, "v", 0), slices.Insert(deep(l), i, rec(key, "v", 1)), 1)
		checkRev(t, nil, op(4, key, "v", 0), []api.Record{rec(key, "v", 1)}, 1)
		for _, rev := range []int{1, 3, most} {
			checkErr(t, l, op(4, key, "v", rev), api.ErrRev)
			checkErr(t, nil, op(4, key, "v", rev), api.ErrRev)
		}
	}
}

// L3: OpMark, written out.
func TestMark(t *testing.T) {
	l := base()
	checkRev(t, l, api.Op{Kind: 5, Key: "b", Life: most, Note: text(40)}, with(l, 0, api.Record{Key: "b", Value: "x", Rev: 4, Life: most, Note: text(40)}), 4)
	checkRev(t, l, api.Op{Kind: 5, Key: "b", Value: "no", Rev: 99, To: "no"}, with(l, 0, rec("b", "x", 4)), 4)
	d := l[1]
	d.Rev, d.Life, d.Note = 1, 8, ""
	checkRev(t, l, api.Op{Kind: 5, Key: "d", Life: 8}, with(l, 1, d), 1)
	d.Life, d.Note = 0, "m"
	checkRev(t, l, api.Op{Kind: 5, Key: "d", Note: "m"}, with(l, 1, d), 1)
	checkErr(t, l, api.Op{Kind: 5, Key: "f", Life: 8}, api.ErrFull)
	checkRev(t, []api.Record{rec("a", "x", most-1)}, api.Op{Kind: 5, Key: "a", Life: 1}, []api.Record{{Key: "a", Value: "x", Rev: most, Life: 1}}, most)
	for _, key := range []string{"a", "c", "e", "g"} {
		checkErr(t, l, api.Op{Kind: 5, Key: key, Life: 8, Note: "m"}, api.ErrNone)
		checkErr(t, nil, api.Op{Kind: 5, Key: key, Life: 8, Note: "m"}, api.ErrNone)
		checkErr(t, many(20), api.Op{Kind: 5, Key: key}, api.ErrNone)
	}
}

// L3: OpScan, written out: from and to keys, between them, from the beginning, to the end.
func TestScan(t *testing.T) {
	l := base()
	checkKeys(t, l, "", "", "b", "d", "f")
	checkKeys(t, l, "b", "", "b", "d", "f")
	checkKeys(t, l, "b\x00", "", "d", "f")
	checkKeys(t, l, "c", "", "d", "f")
	checkKeys(t, l, "f", "", "f")
	checkKeys(t, l, "f\x00", "")
	checkKeys(t, l, "", "b")
	checkKeys(t, l, "", "b\x00", "b")
	checkKeys(t, l, "", "f", "b", "d")
	checkKeys(t, l, "", "g", "b", "d", "f")
	checkKeys(t, l, "b", "d", "b")
	checkKeys(t, l, "b", "b")
	checkKeys(t, l, "d", "b")
	checkKeys(t, l, "f", "a")
	checkKeys(t, l, "a", "c", "b")
	checkKeys(t, l, "c", "e", "d")
	checkKeys(t, nil, "", "")
	checkKeys(t, []api.Record{}, "a", "z")
	checkKeys(t, many(4), "", "", "k00", "k01", "k02", "k03")
	checkKeys(t, many(5), "", "", "k00", "k01", "k02", "k03", "k04")
	checkKeys(t, many(6), "", "", "k00", "k01", "k02", "k03", "k04")
	checkKeys(t, many(6), "k01", "", "k01", "k02", "k03", "k04", "k05")
	checkKeys(t, many(20), "k14", "", "k14", "k15", "k16", "k17", "k18")
	checkKeys(t, many(20), "k15", "", "k15", "k16", "k17", "k18", "k19")
	checkKeys(t, many(20), "k16", "", "k16", "k17", "k18", "k19")
	checkKeys(t, many(20), "k10", "k15", "k10", "k11", "k12", "k13", "k14")
	checkKeys(t, many(20), "k10", "k16", "k10", "k11", "k12", "k13", "k14")
	checkKeys(t, many(20), "k10", "k14", "k10", "k11", "k12", "k13")
}

// L3: a table that is full, and one that has room for one more.
func TestFull(t *testing.T) {
	for _, kind := range []int{2, 4} {
		checkErr(t, many(20), op(kind, "a", "v", 0), api.ErrFull)
		checkErr(t, many(20), op(kind, "k05\x00", "v", 0), api.ErrFull)
		checkErr(t, many(20), op(kind, "z", "v", 0), api.ErrFull)
		checkRev(t, many(20), op(kind, "k05", "v", 5), with(many(20), 5, rec("k05", "v", 6)), 6)
		checkRev(t, many(19), op(kind, "k19", "v", 0), append(many(19), rec("k19", "v", 1)), 1)
		checkRev(t, many(19), op(kind, "a", "v", 0), append([]api.Record{rec("a", "v", 1)}, many(19)...), 1)
		checkErr(t, many(21), op(kind, "a", "v", 0), api.ErrArg)
		checkErr(t, many(21), op(kind, "k05", "v", 5), api.ErrArg)
	}
	checkErr(t, many(20), op(4, "a", "v", 1), api.ErrRev)
	checkRev(t, many(20), op(3, "k19", "", 0), many(19), 19)
	checkAsWas(t, many(20), op(1, "k19", "", 0), api.Reply{Rev: 19, Value: "vk19"})
	checkKeys(t, many(20), "k19", "", "k19")
}

// L3: tables that are not right, and ops that Check does not let be: ErrArg, and the table as it was.
func TestWrong(t *testing.T) {
	for _, l := range wrongTables() {
		for _, o := range slices.Concat(rightOps(l[:min(len(l), 2)]), wrongOps()) {
			if wantCheck(2, o) != api.OK && len(l) > 2 {
				continue
			}
			checkErr(t, l, o, api.ErrArg)
		}
	}
	for _, l := range tables() {
		for _, o := range wrongOps() {
			checkErr(t, l, o, api.ErrArg)
		}
	}
}

// L3: all ops at all tables.
func TestDoByTheWords(t *testing.T) {
	for _, l := range tables() {
		for _, o := range rightOps(l) {
			want, reply := wantDo(l, o)
			checkDo(t, l, o, want, reply)
			if u, r := Do(l, o); !equal(u, want) || !equalReply(r, reply) { // as it is: no table at all, among others
				t.Errorf("Do(%s, %s) = %s, %s", name(l), say(o), name(u), say(r))
			}
		}
	}
}

// checkFollows holds one op against L4: what comes out is right, no other key is changed, nor what a key carries, but what the op says.
func checkFollows(t *testing.T, l []api.Record, o api.Op) []api.Record {
	t.Helper()
	u, r := Do(l, o)
	wrong := func(what string) {
		t.Helper()
		t.Errorf("Do(%s, %s) = %s, %s: %s", name(l), say(o), name(u), say(r), what)
	}
	if !Right(u) {
		wrong("not right")
	}
	if (r.Errno != api.OK || o.Kind == 1 || o.Kind == 6) && !equal(u, l) {
		wrong("changed")
	}
	others := func(t []api.Record) []api.Record {
		return slices.DeleteFunc(deep(t), func(r api.Record) bool { return r.Key == o.Key })
	}
	if !equal(others(u), others(l)) {
		wrong("another key is changed")
	}
	was, there := find(l, o.Key)
	is, left := find(u, o.Key)
	if r.Errno != api.OK || o.Kind == 6 {
		return u
	}
	if left == (o.Kind == 3) {
		wrong("it is there behind a delete, or not there behind another op")
	}
	if !left {
		return u
	}
	if there && !slices.Equal(is.Extra, was.Extra) || !there && len(is.Extra) > 0 {
		wrong("Extra is changed")
	}
	if o.Kind != 5 && (is.Life != was.Life || is.Note != was.Note) || o.Kind == 5 && is.Value != was.Value {
		wrong("what the op does not say is changed")
	}
	if is.Rev != r.Rev || o.Kind != 1 && is.Rev != was.Rev+1 {
		wrong("another Rev")
	}
	return u
}

func find(l []api.Record, key string) (api.Record, bool) {
	for _, r := range l {
		if r.Key == key {
			return r, true
		}
	}
	return api.Record{}, false
}

// L4: of one op.
func TestFollows(t *testing.T) {
	for _, l := range tables() {
		for _, o := range rightOps(l) {
			checkFollows(t, l, o)
		}
	}
}

// seen is what one remembers of a key who saw the replies alone.
type seen struct {
	is    bool
	value string
	rev   int
}

// notice remembers what a reply tells of an op's key.
func (s *seen) notice(o api.Op, r api.Reply) {
	switch {
	case r.Errno != api.OK:
	case o.Kind == 2 || o.Kind == 4:
		*s = seen{true, o.Value, r.Rev}
	case o.Kind == 3:
		*s = seen{}
	case o.Kind == 5:
		s.rev = r.Rev
	}
}

// checkGot asks for each key that there may be, and holds the reply to what was remembered.
func checkGot(t *testing.T, l []api.Record, ops []api.Op, all map[string]*seen) {
	t.Helper()
	n := 0
	for key, s := range all {
		want := api.Reply{Rev: s.rev, Value: s.value}
		if !s.is {
			want = api.Reply{Errno: api.ErrNone}
		} else {
			n++
		}
		if u, r := Do(l, op(1, key, "", 0)); !equalReply(r, want) || !equal(u, l) {
			t.Fatalf("behind %d ops, %s at last: the get of %q tells %s; want %s", len(ops), say(ops[max(len(ops)-4, 0):]), key, say(r), say(want))
		}
	}
	if len(l) != n {
		t.Fatalf("behind %d ops, %s at last: %d records; want %d", len(ops), say(ops[max(len(ops)-4, 0):]), len(l), n)
	}
}

// checkWay does one op behind the other, to a table that is empty at first: what is put is got, until it is put, cas'd or deleted.
func checkWay(t *testing.T, keys []string, ops []api.Op) {
	t.Helper()
	all := map[string]*seen{}
	for _, key := range keys {
		all[key] = &seen{}
	}
	var l []api.Record
	for i, o := range ops {
		u := checkFollows(t, l, o)
		_, r := Do(l, o)
		if s := all[o.Key]; s != nil {
			s.notice(o, r)
		}
		l = u
		checkGot(t, l, ops[:i+1], all)
	}
}

// L4: all ways of four ops to two keys.
func TestAllWays(t *testing.T) {
	var all []api.Op
	for _, key := range []string{"a", "b"} {
		all = append(all, op(2, key, "p", 0), op(3, key, "", 0), op(4, key, "c", 0), op(4, key, "d", 1), api.Op{Kind: 5, Key: key, Life: 3, Note: "n"})
	}
	for i := range len(all) * len(all) * len(all) * len(all) {
		var ops []api.Op
		for range 4 {
			ops = append(ops, all[i%len(all)])
			i /= len(all)
		}
		checkWay(t, []string{"a", "b"}, ops)
	}
}

// next is a number that looks like chance, the same in each run.
func next(seed *uint64) int {
	*seed = *seed*6364136223846793005 + 1442695040888963407
	return int(*seed >> 33)
}

// L4: long ways, on which a table is full at times, and empty at times.
func TestLongWays(t *testing.T) {
	var keys []string
	for i := range 24 {
		keys = append(keys, fmt.Sprint("k", i))
	}
	for seed := range uint64(12) {
		x, ops := seed, []api.Op{}
		for i := range 900 {
			kinds := []int{2, 4, 2, 4, 5, 3, 6, 1}
			if i/150%2 == 1 { // more is taken
				kinds = []int{3, 3, 3, 3, 2, 4, 5, 6}
			}
			o := op(kinds[next(&x)%8], keys[next(&x)%24], fmt.Sprint("v", i), next(&x)%4)
			o.Life, o.Note = next(&x)%3, text(next(&x)%3)
			ops = append(ops, o)
		}
		checkWay(t, keys, ops)
	}
}

// The oracle itself: it tells each error of each kind, and each kind without one.
func TestWantTellsAll(t *testing.T) {
	told := map[string]int{}
	for _, l := range append(tables(), wrongTables()...) {
		for _, o := range append(rightOps(l[:min(len(l), 20)]), wrongOps()...) {
			_, r := wantDo(l, o)
			if r.Errno != 1 {
				told[fmt.Sprint(o.Kind, " ", int(r.Errno))]++
			} else {
				told["1"]++
			}
		}
	}
	want := []string{"1", "1 0", "1 70", "2 0", "2 50", "3 0", "3 70", "4 0", "4 50", "4 71", "5 0", "5 50", "5 70", "6 0"}
	for _, s := range want {
		if told[s] < 3 {
			t.Errorf("%q is told %d times", s, told[s])
		}
	}
	if len(told) != len(want) {
		t.Errorf("told: %v", told)
	}
}

func FuzzDo(f *testing.F) {
	f.Add(2, "b", "v", 1, "", 0, "", "abc", 3, "n", 7)
	f.Add(6, "", "", 0, "b", 1, "n", "abcdefghijklmnopqrst", 1<<53, "", 6)
	f.Add(4, "zz", "v", 0, "", 0, "", "", -1, "x", 4)
	f.Fuzz(func(t *testing.T, kind int, key, value string, rev int, to string, life int, note, keys string, has int, carried string, tag int) {
		var l []api.Record
		for i := range len(keys) {
			l = append(l, api.Record{Key: keys[i : i+1], Value: carried, Rev: has, Life: has, Note: carried, Extra: []api.Field{{Tag: tag, Data: carried}}})
		}
		o := api.Op{Kind: kind, Key: key, Value: value, Rev: rev, To: to, Life: life, Note: note}
		for _, k := range []int{kind, int(uint(kind)%6) + 1} {
			o.Kind = k
			for _, v := range []int{0, 1, 2, 3} {
				if Check(v, o) != wantCheck(v, o) {
					t.Errorf("Check(%d, %s) = %d", v, say(o), Check(v, o))
				}
			}
			if Right(l) != wantRight(l) {
				t.Errorf("Right(%s) = %v", name(l), Right(l))
			}
			want, reply := wantDo(l, o)
			checkDo(t, l, o, want, reply)
		}
	})
}
