package journal

import (
	"encoding/binary"
	"fmt"
	"hash/crc32"
	"slices"
	"strings"
	"testing"

	"careen/api"
	"careen/frame"
	"careen/shard"
)

const most = 1 << 53 // the greatest number

// long is a text of so many bytes.
func long(n int) string {
	return strings.Repeat("x", n)
}

// num is a number's bytes, by the library.
func num(n int) string {
	return string(binary.AppendUvarint(nil, uint64(n)))
}

// lead is a text, and how many bytes it has ahead of it.
func lead(s string) string {
	return num(len(s)) + s
}

// sealed is a text, and its sum's four bytes, by the library.
func sealed(s string) string {
	return string(binary.LittleEndian.AppendUint32([]byte(s), crc32.ChecksumIEEE([]byte(s))))
}

// framed is the bytes of a frame without Flags, by a version.
func framed(v, kind int, data string) string {
	if v == 1 {
		return sealed("a" + string([]byte{byte(kind), byte(len(data) / 256), byte(len(data))}) + data)
	}
	return flagged(0, kind, data)
}

// flagged is the bytes of a frame of version 2.
func flagged(flags, kind int, data string) string {
	return sealed("b" + string([]byte{byte(flags), byte(kind)}) + lead(data))
}

// inLog is an entry's bytes in a log of a format.
func inLog(v int, e api.Entry) string {
	return framed(v, e.Kind, num(e.Shard)+e.Data)
}

// wantCall is a call's bytes by the words.
func wantCall(c api.Call) string {
	o := c.Op
	s := num(c.Shard) + num(c.Epoch) + num(c.Client) + num(c.Id) + num(o.Kind) + num(o.Rev) + num(o.Life)
	return s + lead(o.Key) + lead(o.Value) + lead(o.To) + lead(o.Note)
}

// mayBe tells whether a call may be, by O1's words.
func mayBe(c api.Call) bool {
	for _, n := range []int{c.Shard, c.Epoch, c.Client, c.Id, c.Op.Kind, c.Op.Rev, c.Op.Life} {
		if n < 0 || n > most {
			return false
		}
	}
	return max(len(c.Op.Key), len(c.Op.Value), len(c.Op.To), len(c.Op.Note)) <= 1000
}

// loose takes numbers and texts, whatever bytes they have: what it took is held against the bytes that there should have been.
type loose struct {
	s   string
	bad bool
}

func (l *loose) number() int {
	n, k := binary.Uvarint([]byte(l.s[:min(len(l.s), 10)]))
	if k <= 0 || n > 1<<60 {
		l.s, l.bad = "", true
		return 0
	}
	l.s = l.s[k:]
	return int(n)
}

func (l *loose) text() string {
	n := l.number()
	if n > len(l.s) {
		l.s, l.bad = "", true
		return ""
	}
	s := l.s[:n]
	l.s = l.s[n:]
	return s
}

// wantOfCall is the call that a text seems to tell, if its bytes are the text.
func wantOfCall(s string) (api.Call, bool) {
	l := loose{s: s}
	c := api.Call{Shard: l.number(), Epoch: l.number(), Client: l.number(), Id: l.number()}
	c.Op = api.Op{Kind: l.number(), Rev: l.number(), Life: l.number()}
	c.Op.Key, c.Op.Value, c.Op.To, c.Op.Note = l.text(), l.text(), l.text(), l.text()
	if l.bad || !mayBe(c) || wantCall(c) != s {
		return api.Call{}, false
	}
	return c, true
}

// listed are the shards of a map, by their Ids.
func listed(at map[int]api.Shard) []api.Shard {
	var l []api.Shard
	for id := range 8 {
		if s, ok := at[id]; ok {
			l = append(l, s)
		}
	}
	return l
}

// wantApply is O2 by its words: shards are kept in a map.
func wantApply(v int, l []api.Shard, e api.Entry) ([]api.Shard, api.Errno) {
	if v < 1 || v > 2 {
		return l, 1
	}
	at := map[int]api.Shard{}
	for i, s := range deepAll(l) {
		if !shard.Right(s) || i > 0 && l[i-1].Id >= s.Id {
			return l, 1
		}
		at[s.Id] = s
	}
	s, there := at[e.Shard]
	switch e.Kind {
	case 1:
		s, f := shard.Decode(v, e.Data)
		if f != 0 || s.Id != e.Shard {
			return l, 11
		}
		at[e.Shard] = s
	case 3:
		c, ok := wantOfCall(e.Data)
		if !ok || c.Shard != e.Shard {
			return l, 11
		}
		if !there {
			return l, 83
		}
		at[e.Shard], _, _ = shard.Ask(v, s, c)
	case 2, 4, 5:
		if e.Data != "" {
			return l, 1
		}
		if !there {
			return l, 83
		}
		s.Frozen = e.Kind == 4
		at[e.Shard] = s
		if e.Kind == 2 {
			delete(at, e.Shard)
		}
	default:
		return l, 1
	}
	return listed(at), 0
}

// encoded is a shard's bytes, which chapter 14 knows.
func encoded(v int, s api.Shard) string {
	b, e := shard.Encode(v, s)
	if e != 0 {
		panic(fmt.Sprint("no right shard: ", e, s))
	}
	return b
}

// wantBase is a Base by the words.
func wantBase(v int, l []api.Shard) string {
	s := string([]byte{byte(48 + v)})
	for _, x := range l {
		s += lead(encoded(v, x))
	}
	return s
}

// wantOfBase is what a Base seems to tell, if that is its Base.
func wantOfBase(base string) (int, []api.Shard, bool) {
	if base == "" {
		return 1, nil, true
	}
	v := int(base[0]) - 48
	if v < 1 || v > 2 {
		return 0, nil, false
	}
	in := loose{s: base[1:]}
	var l []api.Shard
	for in.s != "" {
		s, e := shard.Decode(v, in.text())
		if in.bad || e != 0 || len(l) > 0 && l[len(l)-1].Id >= s.Id {
			return 0, nil, false
		}
		l = append(l, s)
	}
	return v, l, !in.bad && wantBase(v, l) == base
}

// wantLoad is O4 by its words.
func wantLoad(d api.Disk) (int, []api.Shard, api.Errno) {
	v, l, ok := wantOfBase(d.Base)
	if !ok {
		return 0, nil, 11
	}
	frames, _, e := frame.Scan(v, d.Kept+d.Pend)
	if e != 0 {
		return 0, nil, e
	}
	for _, f := range frames {
		in := loose{s: f.Data}
		n := in.number()
		if in.bad || f.Flags != 0 || n > most || num(n)+in.s != f.Data {
			return 0, nil, 11
		}
	}
	for _, f := range frames {
		in := loose{s: f.Data}
		n := in.number()
		if l, e = wantApply(v, l, api.Entry{Kind: f.Kind, Shard: n, Data: in.s}); e != 0 {
			return 0, nil, e
		}
	}
	return v, l, 0
}

// wantWrite is O5 by its words.
func wantWrite(d api.Disk, e api.Entry) (api.Disk, api.Errno) {
	v, l, f := wantLoad(d)
	if f != 0 {
		return d, f
	}
	if c, ok := wantOfCall(e.Data); ok && v == 1 && e.Kind == 3 && c.Op.Kind == 5 {
		return d, 22
	}
	if _, f = wantApply(v, l, e); f != 0 {
		return d, f
	}
	if len(num(e.Shard)+e.Data) > 4000 {
		return d, 1
	}
	if len(d.Kept)+len(d.Pend)+len(inLog(v, e)) > 100000 {
		return d, 50
	}
	d.Pend += inLog(v, e)
	return d, 0
}

// wantRewrite is O6 by its words.
func wantRewrite(d api.Disk, v int) (api.Disk, api.Errno) {
	_, l, f := wantLoad(d)
	switch {
	case f != 0:
		return d, f
	case v < 1 || v > 2:
		return d, 1
	case len(wantBase(v, l)) > 100000:
		return d, 50
	}
	return api.Disk{Base: wantBase(v, l)}, 0
}

// equalRecord, equalDone, equal and equalAll hold all of two against each other, without the program's help.
func equalRecord(a, b api.Record) bool {
	return a.Key == b.Key && a.Value == b.Value && a.Rev == b.Rev && a.Life == b.Life && a.Note == b.Note && slices.Equal(a.Extra, b.Extra)
}

func equalDone(a, b api.Done) bool {
	x, y := a.Reply, b.Reply
	return a.Client == b.Client && a.Id == b.Id && x.Errno == y.Errno && x.Rev == y.Rev && x.Value == y.Value && slices.Equal(x.Keys, y.Keys)
}

func equal(a, b api.Shard) bool {
	return a.Id == b.Id && a.Epoch == b.Epoch && a.Frozen == b.Frozen && slices.EqualFunc(a.Table, b.Table, equalRecord) && slices.EqualFunc(a.Cache, b.Cache, equalDone)
}

func equalAll(a, b []api.Shard) bool {
	return slices.EqualFunc(a, b, equal)
}

// deepAll are shards in memory of their own.
func deepAll(l []api.Shard) []api.Shard {
	var all []api.Shard
	for _, s := range l {
		all = append(all, deep(s))
	}
	return all
}

func deep(s api.Shard) api.Shard {
	var t []api.Record
	for _, r := range s.Table {
		r.Extra = append([]api.Field(nil), r.Extra...)
		t = append(t, r)
	}
	var l []api.Done
	for _, d := range s.Cache {
		d.Reply.Keys = append([]string(nil), d.Reply.Keys...)
		l = append(l, d)
	}
	s.Table, s.Cache = t, l
	return s
}

// watch tells whether any of its lists was written into, or what stands around them.
type watch struct {
	written []func() bool
}

func (w *watch) tells() bool {
	return slices.ContainsFunc(w.written, func(is func() bool) bool { return is() })
}

// wedged is a list that stands between others, which is watched.
func wedged[T any](w *watch, l []T, other T, same func(a, b T) bool) []T {
	wide := slices.Concat([]T{other}, l, []T{other, other})
	was := slices.Clone(wide)
	w.written = append(w.written, func() bool { return !slices.EqualFunc(wide, was, same) })
	return wide[1 : 1+len(l)]
}

// held are shards, all of whose lists stand between others, and are watched. (The lists' own lists are held against copies, so that writing into these is seen, too.)
func held(l []api.Shard) ([]api.Shard, *watch) {
	w := &watch{}
	l = deepAll(l)
	for n := range l {
		s := &l[n]
		for i := range s.Table {
			s.Table[i].Extra = wedged(w, s.Table[i].Extra, api.Field{Tag: 8, Data: "other"}, func(a, b api.Field) bool { return a == b })
		}
		for i := range s.Cache {
			s.Cache[i].Reply.Keys = wedged(w, s.Cache[i].Reply.Keys, "other", func(a, b string) bool { return a == b })
		}
		s.Table = wedged(w, s.Table, laden("other", "o", 3), equalRecord)
		s.Cache = wedged(w, s.Cache, last(500, 5, "other"), equalDone)
	}
	return wedged(w, l, some(5), equal), w
}

// overwrite writes into all of a list, spare room too, and grows it.
func overwrite[T any](l []T, x T) {
	all := l[:cap(l)]
	for i := range all {
		all[i] = x
	}
	_ = append(l, x, x)
}

// overwriteAll writes into all lists of shards, and tells whether one of them was another one's memory, too.
func overwriteAll(l []api.Shard) bool {
	was, shared := deepAll(l), false
	for n := range l {
		s := &l[n]
		for i := range s.Table {
			overwrite(s.Table[i].Extra, api.Field{Tag: 77, Data: "over"})
			was[n].Table[i].Extra = slices.Clone(s.Table[i].Extra)
			shared = shared || !equalAll(l, was)
		}
		for i := range s.Cache {
			overwrite(s.Cache[i].Reply.Keys, "over")
			was[n].Cache[i].Reply.Keys = slices.Clone(s.Cache[i].Reply.Keys)
			shared = shared || !equalAll(l, was)
		}
		overwrite(s.Table, laden("over", "over", 77))
		overwrite(s.Cache, last(777, 77, "over"))
		was[n] = deep(*s)
		shared = shared || !equalAll(l, was)
	}
	overwrite(l, some(7))
	return shared
}

// say is anything in a few words, whatever bytes it has.
func say(x any) string {
	return fmt.Sprintf("%.300q", fmt.Sprint(x))
}

// next is a number that looks like chance, the same in each run.
func next(seed *uint64) int {
	*seed = *seed*6364136223846793005 + 1442695040888963407
	return int(*seed >> 33)
}

// laden is a record that carries all that there is.
func laden(key, value string, rev int) api.Record {
	return api.Record{Key: key, Value: value, Rev: rev, Life: 7, Note: "n" + key, Extra: []api.Field{{Tag: 6, Data: "x" + key}, {Tag: 9}, {Tag: 1000000, Data: "\x00\xff"}}}
}

// last is a client's last call.
func last(client, id int, keys ...string) api.Done {
	return api.Done{Client: client, Id: id, Reply: api.Reply{Errno: api.Errno(client % 200), Rev: id, Value: "v", Keys: keys}}
}

// bare is a shard that has nothing.
func bare(id int) api.Shard {
	return api.Shard{Id: id, Epoch: 5}
}

// some is a shard that has some of all, in the epoch 5. Its client 10 asked call 100 last.
func some(id int) api.Shard {
	return api.Shard{Id: id, Epoch: 5, Table: []api.Record{laden("a", "va", 1), {Key: "b", Value: fmt.Sprint("v", id), Rev: 2}}, Cache: []api.Done{last(10, 100, "k", "", "l"), last(20, 7)}}
}

// somes are shards of these Ids.
func somes(ids ...int) []api.Shard {
	var l []api.Shard
	for _, id := range ids {
		l = append(l, some(id))
	}
	return l
}

// great is a shard of so many records, each of more than 8000 bytes, and the last one's Note of so many bytes.
func great(id, records, note int) api.Shard {
	s := api.Shard{Id: id, Epoch: 5}
	for i := range records {
		r := api.Record{Key: fmt.Sprintf("k%02d", i), Value: long(200), Rev: i}
		for tag := range 8 {
			r.Extra = append(r.Extra, api.Field{Tag: 6 + tag, Data: long(1000)})
		}
		s.Table = append(s.Table, r)
	}
	s.Table[records-1].Note = long(note)
	return s
}

// ask is a call of shard id, in the epoch 5.
func ask(id, client, number int, o api.Op) api.Call {
	return api.Call{Shard: id, Epoch: 5, Client: client, Id: number, Op: o}
}

func put(key, value string) api.Op { return api.Op{Kind: api.OpPut, Key: key, Value: value} }

func mark(key string) api.Op { return api.Op{Kind: api.OpMark, Key: key, Life: 9, Note: "m"} }

// The entries, in few words.
func adopts(v int, s api.Shard) api.Entry {
	return api.Entry{Kind: 1, Shard: s.Id, Data: encoded(v, s)}
}

func drops(id int) api.Entry { return api.Entry{Kind: 2, Shard: id} }

func calls(c api.Call) api.Entry { return api.Entry{Kind: 3, Shard: c.Shard, Data: wantCall(c)} }

func freezes(id int) api.Entry { return api.Entry{Kind: 4, Shard: id} }

func thaws(id int) api.Entry { return api.Entry{Kind: 5, Shard: id} }

// checkApply holds Apply to what is to be told, and asks that nothing that was handed in is written into, and that what comes out is new memory, but where it is as it was.
func checkApply(t *testing.T, v int, l []api.Shard, e api.Entry, want []api.Shard, f api.Errno) {
	t.Helper()
	asked := func() string { return fmt.Sprintf("Apply(%d, %s, %s)", v, say(l), say(e)) }
	in, watched := held(l)
	for _, again := range []string{"", ", asked again"} {
		got, fault := Apply(v, in, e)
		if !equalAll(got, want) || fault != f {
			t.Errorf("%s%s = %s, %d; want %s, %d", asked(), again, say(got), fault, say(want), f)
		}
		if watched.tells() {
			t.Errorf("%s wrote into what was handed in", asked())
		}
		if fault == api.OK && overwriteAll(got) {
			t.Errorf("%s gives out a list twice", asked())
		}
		if watched.tells() {
			t.Errorf("%s gives out what was handed in", asked())
		}
	}
	if got, fault := Apply(v, l, e); !equalAll(got, want) || fault != f { // as it is: no lists at all, among others
		t.Errorf("%s, as it is = %s, %d", asked(), say(got), fault)
	}
}

// checkRefused asks that shards are as they were.
func checkRefused(t *testing.T, v int, l []api.Shard, e api.Entry, f api.Errno) {
	t.Helper()
	checkApply(t, v, l, e, l, f)
}

// checkWords holds Apply against O2's words.
func checkWords(t *testing.T, v int, l []api.Shard, e api.Entry) api.Errno {
	t.Helper()
	want, f := wantApply(v, l, e)
	checkApply(t, v, l, e, want, f)
	return f
}

// checkLoad holds Load to what is to be told, and asks that what comes out is new memory.
func checkLoad(t *testing.T, d api.Disk, v int, want []api.Shard, e api.Errno) {
	t.Helper()
	for _, again := range []string{"", ", asked again"} {
		u, l, f := Load(d)
		if u != v || !equalAll(l, want) || f != e {
			t.Errorf("Load(%s)%s = %d, %s, %d; want %d, %s, %d", say(d), again, u, say(l), f, v, say(want), e)
		}
		if overwriteAll(l) {
			t.Errorf("Load(%s) gives out a list twice", say(d))
		}
	}
}

// checkBroken asks that a disk is told with an error, whatever is asked of it, and is as it was.
func checkBroken(t *testing.T, d api.Disk, e api.Errno) {
	t.Helper()
	checkLoad(t, d, 0, nil, e)
	for v := -1; v <= 3; v++ {
		if u, f := Rewrite(d, v); u != d || f != e {
			t.Errorf("Rewrite(%s, %d) = %s, %d; want %d", say(d), v, say(u), f, e)
		}
	}
	for _, x := range []api.Entry{adopts(1, bare(3)), adopts(2, bare(3)), drops(2), drops(9), freezes(2), calls(ask(2, 30, 1, put("a", "x"))), calls(ask(2, 30, 1, mark("a"))), {}} {
		if u, f := Write(d, x); u != d || f != e {
			t.Errorf("Write(%s, %s) = %s, %d; want %d", say(d), say(x), say(u), f, e)
		}
	}
}

// checkDisk holds all that is asked of a disk against the words, and tells Load's error.
func checkDisk(t *testing.T, d api.Disk) api.Errno {
	t.Helper()
	v, l, e := wantLoad(d)
	if e != 0 {
		checkBroken(t, d, e)
		return e
	}
	checkLoad(t, d, v, l, 0)
	for v := -1; v <= 3; v++ {
		checkRewrite(t, d, v)
	}
	for _, x := range []api.Entry{adopts(1, bare(3)), adopts(2, bare(3)), drops(2), drops(9), freezes(2), calls(ask(2, 30, 1, put("a", "x"))), calls(ask(2, 30, 1, mark("a"))), {}} {
		checkWrite(t, d, x)
	}
	return 0
}

// checkWrite holds Write against O5's words, and tells the disk and the error.
func checkWrite(t *testing.T, d api.Disk, e api.Entry) (api.Disk, api.Errno) {
	t.Helper()
	want, f := wantWrite(d, e)
	u, fault := Write(d, e)
	if u != want || fault != f {
		t.Errorf("Write(%s, %s) = %s, %d; want %s, %d", say(d), say(e), say(u), fault, say(want), f)
	}
	return u, fault
}

// checkRewrite holds Rewrite against O6's words, and tells the disk and the error.
func checkRewrite(t *testing.T, d api.Disk, v int) (api.Disk, api.Errno) {
	t.Helper()
	want, f := wantRewrite(d, v)
	u, fault := Rewrite(d, v)
	if u != want || fault != f {
		t.Errorf("Rewrite(%s, %d) = %s, %d; want %s, %d", say(d), v, say(u), fault, say(want), f)
	}
	return u, fault
}

// written is a disk behind entries, which may all be written.
func written(t *testing.T, d api.Disk, l ...api.Entry) api.Disk {
	t.Helper()
	for _, e := range l {
		u, f := Write(d, e)
		if f != api.OK {
			t.Fatalf("Write(%s, %s): %d", say(d), say(e), f)
		}
		d = u
	}
	return d
}
