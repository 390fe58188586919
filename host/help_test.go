package host

import (
	"encoding/binary"
	"fmt"
	"hash/crc32"
	"slices"
	"strings"
	"testing"

	"careen/api"
	"careen/disk"
	"careen/frame"
	"careen/journal"
	"careen/reply"
	"careen/shard"
)

const most = 1 << 53 // the greatest number

// long is a text of so many bytes.
func long(n int) string {
	return strings.Repeat("x", n)
}

// num is a number's bytes, by the library.
func num(n int) string {
	return string(binary.AppendUvarint(nil, uint64(n)))
}

// lead is a text, and how many bytes it has ahead of it.
func lead(s string) string {
	return num(len(s)) + s
}

// sealed is a text, and its sum's four bytes, by the library.
func sealed(s string) string {
	return string(binary.LittleEndian.AppendUint32([]byte(s), crc32.ChecksumIEEE([]byte(s))))
}

// framed is the bytes of a frame without Flags, which chapter 6 knows.
func framed(v, kind int, data string) string {
	s, e := frame.Encode(v, api.Frame{Kind: kind, Data: data})
	if e != api.OK {
		panic(fmt.Sprint("no right frame: ", e))
	}
	return s
}

// inLog is an entry's bytes in a log of a format.
func inLog(v int, e api.Entry) string {
	return framed(v, e.Kind, num(e.Shard)+e.Data)
}

// encoded is a shard's bytes, which chapter 14 knows.
func encoded(v int, s api.Shard) string {
	b, e := shard.Encode(v, s)
	if e != api.OK {
		panic(fmt.Sprint("no right shard: ", e, s))
	}
	return b
}

// baseOf is a Base of shards, in a format.
func baseOf(v int, l ...api.Shard) string {
	s := fmt.Sprint(v)
	for _, x := range l {
		s += lead(encoded(v, x))
	}
	return s
}

// bytesOf is a call's bytes, which chapter 15 knows.
func bytesOf(c api.Call) string {
	s, e := journal.Call(c)
	if e != api.OK {
		panic(fmt.Sprint("no right call: ", e, c))
	}
	return s
}

// The entries, in few words.
func adopts(v int, s api.Shard) api.Entry {
	return api.Entry{Kind: api.EntAdopt, Shard: s.Id, Data: encoded(v, s)}
}

func drops(id int) api.Entry { return api.Entry{Kind: api.EntDrop, Shard: id} }

func calls(c api.Call) api.Entry {
	return api.Entry{Kind: api.EntCall, Shard: c.Shard, Data: bytesOf(c)}
}

func freezes(id int) api.Entry { return api.Entry{Kind: api.EntFreeze, Shard: id} }

func thaws(id int) api.Entry { return api.Entry{Kind: api.EntThaw, Shard: id} }

// laden is a record that carries all that there is.
func laden(key, value string, rev int) api.Record {
	return api.Record{Key: key, Value: value, Rev: rev, Life: 7, Note: "n" + key, Extra: []api.Field{{Tag: 6, Data: "x" + key}, {Tag: 9}, {Tag: 1000000, Data: "\x00\xff"}}}
}

// last is a client's last call.
func last(client, id int, keys ...string) api.Done {
	return api.Done{Client: client, Id: id, Reply: api.Reply{Errno: api.Errno(client % 200), Rev: id, Value: "v", Keys: keys}}
}

// bare is a shard that has nothing.
func bare(id int) api.Shard {
	return api.Shard{Id: id, Epoch: 5}
}

// some is a shard that has some of all, in the epoch 5. Its client 10 asked call 100 last.
func some(id int) api.Shard {
	return api.Shard{Id: id, Epoch: 5, Table: []api.Record{laden("a", "va", 1), {Key: "b", Value: fmt.Sprint("v", id), Rev: 2}}, Cache: []api.Done{last(10, 100, "k", "", "l"), last(20, 7)}}
}

// somes are shards of these Ids.
func somes(ids ...int) []api.Shard {
	var l []api.Shard
	for _, id := range ids {
		l = append(l, some(id))
	}
	return l
}

// frozen is such a shard that is frozen, crowded one whose cache has as many clients as it may.
func frozen(id int) api.Shard {
	s := some(id)
	s.Frozen = true
	return s
}

func crowded(id int) api.Shard {
	s := some(id)
	for len(s.Cache) < api.MaxClients {
		s.Cache = append(s.Cache, last(100+len(s.Cache), 1))
	}
	return s
}

// great is a shard of so many records, each of more than 8000 bytes, and of one more, whose fields have so many.
func great(id, records, data, more int) api.Shard {
	s := api.Shard{Id: id, Epoch: 5}
	for i := range records {
		r := api.Record{Key: fmt.Sprintf("k%02d", i), Value: long(200), Rev: i}
		for tag := range 8 {
			r.Extra = append(r.Extra, api.Field{Tag: 6 + tag, Data: long(1000)})
		}
		s.Table = append(s.Table, r)
	}
	s.Table = append(s.Table, api.Record{Key: "z", Extra: []api.Field{{Tag: 6, Data: long(data)}, {Tag: 7, Data: long(more)}}})
	return s
}

// greats are shards whose Base, in a format, has just so many bytes: some 100000.
func greats(v, n int) []api.Shard {
	of := func(data, more int) []api.Shard { return []api.Shard{great(1, 6, 0, 0), great(3, 6, data, more)} }
	left := n - len(baseOf(v, of(0, 0)...))
	for more := left / 2; more < left/2+4; more++ { // a length that needs a byte more leaves a gap
		for data := left - more - 10; data <= left-more; data++ {
			if l := of(data, more); len(baseOf(v, l...)) == n {
				return l
			}
		}
	}
	panic(fmt.Sprint("a Base that can't be: ", n))
}

// idle is a log of just so many bytes, from 500 on, of calls of a shard that are no calls to it: it has to be there.
func idle(v, id, n int) string {
	of := func(a, b int) string {
		return inLog(v, calls(api.Call{Shard: id, Op: api.Op{Key: long(a), Value: long(b), To: long(b)}}))
	}
	s := ""
	for n-len(s) > 3500 {
		s += of(1000, 1000)
	}
	if n-len(s) > 2000 {
		s += of(400, 400)
	}
	third := (n - len(s)) / 3
	for b := third - 20; b < third; b++ { // a length that needs a byte more leaves a gap
		left := n - len(s) - len(of(0, b))
		for a := left - 4; a <= left; a++ {
			if one := of(a, b); len(s)+len(one) == n {
				return s + one
			}
		}
	}
	panic(fmt.Sprint("a log that can't be: ", n))
}

// ask is a call of shard id, in the epoch 5.
func ask(id, client, number int, o api.Op) api.Call {
	return api.Call{Shard: id, Epoch: 5, Client: client, Id: number, Op: o}
}

func put(key, value string) api.Op { return api.Op{Kind: api.OpPut, Key: key, Value: value} }

func get(key string) api.Op { return api.Op{Kind: api.OpGet, Key: key} }

func remove(key string) api.Op { return api.Op{Kind: api.OpDelete, Key: key} }

func cas(key, value string, rev int) api.Op {
	return api.Op{Kind: api.OpCas, Key: key, Value: value, Rev: rev}
}

func mark(key string) api.Op { return api.Op{Kind: api.OpMark, Key: key, Life: 9, Note: "m"} }

func scan() api.Op { return api.Op{Kind: api.OpScan} }

// up is a host that is up, with a binary, and a disk; down is one that is not.
func up(bin int, d api.Disk) api.Host { return api.Host{Name: 7, Bin: bin, Up: true, Disk: d} }

func down(bin int, d api.Disk) api.Host { return api.Host{Name: 7, Bin: bin, Disk: d} }

// disks are those that can be loaded, of a format: without shards and with some, without a log, with one that lasts, pends, does both, or ends in a torn frame.
func disks(v int) []api.Disk {
	base := baseOf(v, somes(0, 2, 5)...)
	log := inLog(v, adopts(v, bare(3))) + inLog(v, calls(ask(3, 10, 99, put("c", "x")))) + inLog(v, freezes(5))
	more := inLog(v, calls(ask(2, 10, 100, put("c", "y")))) + inLog(v, calls(ask(2, 10, 101, put("c", "z")))) + inLog(v, drops(0))
	l := []api.Disk{
		{Base: baseOf(v)},
		{Base: base},
		{Base: baseOf(v), Kept: inLog(v, adopts(v, some(2)))},
		{Base: baseOf(v), Pend: inLog(v, adopts(v, some(2)))},
		{Base: base, Kept: log},
		{Base: base, Pend: log},
		{Base: base, Kept: log, Pend: more},
		{Base: base, Kept: log + more[:len(more)-1]},
		{Base: base, Kept: log, Pend: more[:3]},
		{Base: base, Kept: log + more[:3], Pend: more[3:]},
	}
	if v == 1 {
		l = append(l, api.Disk{}, api.Disk{Kept: inLog(1, adopts(1, some(2)))})
	}
	return l
}

// broken are disks that Load does not read, and what it tells, of each error each way.
func broken() map[api.Disk]api.Errno {
	l := map[api.Disk]api.Errno{{Base: "x"}: 11, {Base: "0"}: 11, {Base: "3"}: 11, {Base: "\x01"}: 11}
	for v := 1; v <= 2; v++ {
		base, good, other := baseOf(v, somes(0, 2, 5)...), inLog(v, freezes(2)), inLog(3-v, freezes(2))
		l[api.Disk{Base: base[:len(base)-1]}] = 11
		l[api.Disk{Base: base + "x", Kept: good}] = 11
		l[api.Disk{Base: baseOf(v, somes(5, 2)...)}] = 11
		l[api.Disk{Base: baseOf(v) + lead(encoded(3-v, some(2)))}] = 11
		of := func(log string, e api.Errno) {
			l[api.Disk{Base: base, Kept: log}] = e
			l[api.Disk{Base: base, Kept: good, Pend: log}] = e
			l[api.Disk{Base: base, Kept: good + log, Pend: good}] = e
		}
		of("x"+good, 11)
		of(good[:len(good)-1]+"x", 11)
		of(framed(v, 4, "\x80")+good, 11)
		of(other, 22)
		of(framed(v, 9, "\x02"), 1)
		of(inLog(v, api.Entry{Kind: 4, Shard: 2, Data: "x"}), 1)
		of(inLog(v, drops(3)), 83)
		of(inLog(v, calls(ask(3, 10, 101, put("a", "x")))), 83)
		of(inLog(v, api.Entry{Kind: 1, Shard: 2, Data: "x"}), 11)
		of(inLog(v, api.Entry{Kind: 3, Shard: 2, Data: "x"}), 11)
	}
	l[api.Disk{Base: baseOf(2, some(2)), Kept: sealed("b\x01\x04\x01\x02")}] = 11
	return l
}

// asks are calls of shards that are there on some of the disks, on none, and that are frozen there: that write, read, were done, are older, are refused, are told with an error.
func asks() []api.Call {
	var l []api.Call
	for _, id := range []int{0, 2, 3, 4, 5} {
		for _, o := range []api.Op{put("a", "y"), put("new", "y"), get("a"), get("z"), scan(), remove("a"), remove("z"), cas("a", "y", 1), cas("a", "y", 2), mark("a"), mark("z"), {}, put("", "y"), put("a", long(201))} {
			for _, c := range [][2]int{{10, 101}, {10, 100}, {10, 99}, {15, 1}, {0, 1}, {10, 0}} {
				l = append(l, ask(id, c[0], c[1], o))
			}
		}
	}
	for _, id := range []int{-1, 2, 8, most + 1} {
		for _, epoch := range []int{-1, 4, 5, 6} {
			l = append(l, api.Call{Shard: id, Epoch: epoch, Client: 10, Id: 101, Op: put("a", "y")}, api.Call{Shard: id, Epoch: epoch, Client: 1001, Id: 101, Op: get("a")})
		}
	}
	return append(l, api.Call{}, ask(2, 10, most+1, put("a", "y")), ask(2, 10, 101, api.Op{Kind: 2, Key: long(2000)}))
}

// entries are some of each kind: that may be written to some of the disks, or to none.
func entries() []api.Entry {
	var l []api.Entry
	for _, id := range []int{-1, 0, 2, 3, 4, 5, 9} {
		l = append(l, drops(id), freezes(id), thaws(id), api.Entry{Shard: id}, api.Entry{Kind: 6, Shard: id}, api.Entry{Kind: 2, Shard: id, Data: "x"}, api.Entry{Kind: 1, Shard: id, Data: "x"}, api.Entry{Kind: 3, Shard: id, Data: "x"})
	}
	for _, id := range []int{0, 2, 4} {
		l = append(l, adopts(1, bare(id)), adopts(2, bare(id)), adopts(1, some(id)), adopts(2, some(id)), adopts(1, great(id, 1, 0, 0)), adopts(2, great(id, 1, 0, 0)))
		for _, o := range []api.Op{put("a", "y"), get("a"), mark("a"), {}, put("", "y")} {
			l = append(l, calls(ask(id, 10, 101, o)), calls(ask(id, 10, 99, o)), api.Entry{Kind: 3, Shard: id + 1, Data: bytesOf(ask(id, 10, 101, o))})
		}
	}
	return l
}

// wantAsk is W2 by its words, wantTorn W3.
func wantAsk(h api.Host, c api.Call) (api.Host, api.Reply) {
	d, r := wantAsked(h, c)
	if d != h.Disk {
		h.Disk = api.Disk{Base: d.Base, Kept: d.Kept + d.Pend}
	}
	return h, r
}

func wantTorn(h api.Host, c api.Call, keep int) api.Host {
	if h.Up {
		d, _ := wantAsked(h, c)
		h.Disk, h.Up = disk.Crash(d, keep), false
	}
	return h
}

// wantAsked is the disk behind a call, of which nothing is synced yet, and the reply.
func wantAsked(h api.Host, c api.Call) (api.Disk, api.Reply) {
	v, l, e := journal.Load(h.Disk)
	if !h.Up {
		return h.Disk, api.Reply{Errno: 90}
	} else if e != 0 {
		return h.Disk, api.Reply{Errno: e}
	}
	for _, s := range l {
		if s.Id != c.Shard {
			continue
		}
		if _, r, changed := shard.Ask(v, s, c); !changed {
			return h.Disk, r
		} else if d, e := journal.Write(h.Disk, calls(c)); e != 0 {
			return h.Disk, api.Reply{Errno: e}
		} else {
			return d, r
		}
	}
	return h.Disk, api.Reply{Errno: 83}
}

// wantPut and wantFormat are W4 by its words.
func wantPut(h api.Host, e api.Entry) (api.Host, api.Errno) {
	d, f := journal.Write(h.Disk, e)
	if !h.Up {
		return h, 90
	} else if f != 0 {
		return h, f
	}
	h.Disk = disk.Sync(d)
	return h, 0
}

func wantFormat(h api.Host, v int) (api.Host, api.Errno) {
	d, e := journal.Rewrite(h.Disk, v)
	switch {
	case !h.Up:
		return h, 90
	case v < 1 || v > 2:
		return h, 1
	case v > h.Bin:
		return h, 22
	case e != 0:
		return h, e
	}
	h.Disk = d
	return h, 0
}

// wantStart is W5 by its words.
func wantStart(h api.Host, bin int) (api.Host, api.Errno) {
	v, _, e := journal.Load(h.Disk)
	d, f := journal.Rewrite(h.Disk, v)
	switch {
	case h.Up:
		return h, 91
	case bin < 1 || bin > 2:
		return h, 1
	case e != 0:
		return h, e
	case v > bin:
		return h, 22
	case f != 0:
		return h, f
	}
	return api.Host{Name: h.Name, Bin: bin, Up: true, Disk: d}, 0
}

// say is anything in a few words, whatever bytes it has.
func say(x any) string {
	return fmt.Sprintf("%.300q", fmt.Sprint(x))
}

// sameAll holds shards against others.
func sameAll(a, b []api.Shard) bool {
	return slices.EqualFunc(a, b, shard.Same)
}

// overwrite writes into all of a list, spare room too, and grows it.
func overwrite[T any](l []T, x T) {
	all := l[:cap(l)]
	for i := range all {
		all[i] = x
	}
	_ = append(l, x, x)
}

// deepAll are shards in memory of their own.
func deepAll(l []api.Shard) []api.Shard {
	all := slices.Clone(l)
	for n := range all {
		s := &all[n]
		s.Table, s.Cache = slices.Clone(s.Table), slices.Clone(s.Cache)
		for i := range s.Table {
			s.Table[i].Extra = slices.Clone(s.Table[i].Extra)
		}
		for i := range s.Cache {
			s.Cache[i].Reply.Keys = slices.Clone(s.Cache[i].Reply.Keys)
		}
	}
	return all
}

// overwriteAll writes into all lists of shards, and tells whether one of them was another one's memory, too: behind each one all others have to be as they were.
func overwriteAll(l []api.Shard) bool {
	was, shared := deepAll(l), false
	differs := func() { shared = shared || !sameAll(l, was) }
	for n := range l {
		now, then := &l[n], &was[n]
		for i := range now.Table {
			overwrite(now.Table[i].Extra, api.Field{Tag: 77, Data: "over"})
			then.Table[i].Extra = slices.Clone(now.Table[i].Extra)
			differs()
		}
		for i := range now.Cache {
			overwrite(now.Cache[i].Reply.Keys, "over")
			then.Cache[i].Reply.Keys = slices.Clone(now.Cache[i].Reply.Keys)
			differs()
		}
		overwrite(now.Table, laden("over", "over", 77))
		overwrite(now.Cache, last(777, 77, "over"))
		then.Table, then.Cache = slices.Clone(now.Table), slices.Clone(now.Cache)
		differs()
	}
	overwrite(l, some(7))
	return shared
}

// next is a number that looks like chance, the same in each run.
func next(seed *uint64) int {
	*seed = *seed*6364136223846793005 + 1442695040888963407
	return int(*seed >> 33)
}

// checkShards holds Shards to what is to be told, and asks that what comes out is new memory.
func checkShards(t *testing.T, h api.Host, want []api.Shard) {
	t.Helper()
	for _, again := range []string{"", ", asked again"} {
		l := Shards(h)
		if !sameAll(l, want) {
			t.Errorf("Shards(%s)%s = %s; want %s", say(h), again, say(l), say(want))
		}
		if overwriteAll(l) {
			t.Errorf("Shards(%s) gives out a list twice", say(h))
		}
	}
}

// checkAsk holds Ask against W2's words, and asks that what comes out is new memory.
func checkAsk(t *testing.T, h api.Host, c api.Call) (api.Host, api.Reply) {
	t.Helper()
	want, s := wantAsk(h, c)
	var got api.Host
	for range 2 {
		var r api.Reply
		got, r = Ask(h, c)
		if got != want || !reply.Same(r, s) {
			t.Errorf("Ask(%s, %s) = %s, %s; want %s, %s", say(h), say(c), say(got), say(r), say(want), say(s))
		}
		overwrite(r.Keys, "over")
	}
	return got, s
}

// checkTorn holds Torn against W3's words.
func checkTorn(t *testing.T, h api.Host, c api.Call, keep int) api.Host {
	t.Helper()
	got, want := Torn(h, c, keep), wantTorn(h, c, keep)
	if got != want {
		t.Errorf("Torn(%s, %s, %d) = %s; want %s", say(h), say(c), keep, say(got), say(want))
	}
	return got
}

// checkHost asks that a host, and an error, are those that there are to be.
func checkHost(t *testing.T, what string, got api.Host, e api.Errno, want api.Host, f api.Errno) {
	t.Helper()
	if got != want || e != f {
		t.Errorf("%s = %s, %d; want %s, %d", what, say(got), e, say(want), f)
	}
}

// checkPut and checkFormat hold these against W4's words, checkStart holds Start against W5's.
func checkPut(t *testing.T, h api.Host, e api.Entry) (api.Host, api.Errno) {
	t.Helper()
	got, f := Put(h, e)
	want, g := wantPut(h, e)
	checkHost(t, fmt.Sprintf("Put(%s, %s)", say(h), say(e)), got, f, want, g)
	return got, f
}

func checkFormat(t *testing.T, h api.Host, v int) (api.Host, api.Errno) {
	t.Helper()
	got, f := Format(h, v)
	want, g := wantFormat(h, v)
	checkHost(t, fmt.Sprintf("Format(%s, %d)", say(h), v), got, f, want, g)
	return got, f
}

func checkStart(t *testing.T, h api.Host, bin int) (api.Host, api.Errno) {
	t.Helper()
	got, f := Start(h, bin)
	want, g := wantStart(h, bin)
	checkHost(t, fmt.Sprintf("Start(%s, %d)", say(h), bin), got, f, want, g)
	return got, f
}

// checkStop holds Stop against W5's words: nothing is left of what pends.
func checkStop(t *testing.T, h api.Host) api.Host {
	t.Helper()
	want := api.Host{Name: h.Name, Bin: h.Bin, Disk: api.Disk{Base: h.Disk.Base, Kept: h.Disk.Kept}}
	got := Stop(h)
	checkHost(t, fmt.Sprintf("Stop(%s)", say(h)), got, 0, want, 0)
	return got
}

// checkAll holds all that is asked of a host against the words.
func checkAll(t *testing.T, h api.Host) {
	t.Helper()
	_, l, _ := journal.Load(h.Disk)
	checkShards(t, h, l)
	for _, v := range []int{-1, 0, 1, 2, 3} {
		checkFormat(t, h, v)
		checkStart(t, h, v)
	}
	checkStop(t, h)
	for _, c := range []api.Call{ask(2, 15, 1, put("a", "x")), ask(2, 10, 100, put("a", "x")), ask(2, 15, 1, mark("a")), ask(2, 15, 1, scan()), ask(5, 15, 1, put("a", "x")), ask(4, 15, 1, put("a", "x")), {}} {
		checkAsk(t, h, c)
		for _, keep := range []int{-1, 0, 1, len(h.Disk.Pend), len(h.Disk.Pend) + 9, 100000} {
			checkTorn(t, h, c, keep)
		}
	}
	for _, e := range []api.Entry{adopts(1, bare(3)), adopts(2, bare(3)), drops(2), drops(9), freezes(2), thaws(5), calls(ask(2, 15, 1, put("a", "x"))), calls(ask(2, 15, 1, mark("a"))), {}} {
		checkPut(t, h, e)
	}
}

// started is a host that may be started, with a binary.
func started(t *testing.T, h api.Host, bin int) api.Host {
	t.Helper()
	h, e := Start(h, bin)
	if e != api.OK {
		t.Fatalf("Start(%d): %d", bin, e)
	}
	return h
}

// filled is a host behind entries, which may all be put.
func filled(t *testing.T, h api.Host, l ...api.Entry) api.Host {
	t.Helper()
	for _, e := range l {
		u, f := Put(h, e)
		if f != api.OK {
			t.Fatalf("Put(%s, %s): %d", say(h), say(e), f)
		}
		h = u
	}
	return h
}

// asked is a host behind a call, which is replied with that Errno and Rev.
func asked(t *testing.T, h api.Host, c api.Call, e api.Errno, rev int) api.Host {
	t.Helper()
	h, r := Ask(h, c)
	if r.Errno != e || r.Rev != rev {
		t.Fatalf("Ask(%s) = %s; want %d, Rev %d", say(c), say(r), e, rev)
	}
	return h
}
