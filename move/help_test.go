package move

import (
	"encoding/binary"
	"fmt"
	"slices"
	"strings"
	"testing"

	"careen/api"
	"careen/disk"
	"careen/frame"
	"careen/host"
	"careen/journal"
	"careen/shard"
)

const most = 1 << 53 // the greatest number

// long is a text of so many bytes.
func long(n int) string {
	return strings.Repeat("x", n)
}

// mixed is a text of so many bytes, of which those that stand at most 250 apart are unlike.
func mixed(n int) string {
	b := make([]byte, n)
	for i := range b {
		b[i] = byte(i % 251)
	}
	return string(b)
}

// num is a number's bytes, by the library.
func num(n int) string {
	return string(binary.AppendUvarint(nil, uint64(n)))
}

// encoded is a shard's bytes, which chapter 14 knows.
func encoded(v int, s api.Shard) string {
	b, e := shard.Encode(v, s)
	if e != api.OK {
		panic(fmt.Sprint("no right shard: ", e, s))
	}
	return b
}

// baseOf is a Base of shards, in a format.
func baseOf(v int, l ...api.Shard) string {
	s := fmt.Sprint(v)
	for _, x := range l {
		b := encoded(v, x)
		s += num(len(b)) + b
	}
	return s
}

// inLog is an entry's bytes in a log of a format.
func inLog(v int, e api.Entry) string {
	s, f := frame.Encode(v, api.Frame{Kind: e.Kind, Data: num(e.Shard) + e.Data})
	if f != api.OK {
		panic(fmt.Sprint("no right frame: ", f))
	}
	return s
}

// The entries, in few words.
func adopts(v int, s api.Shard) api.Entry {
	return api.Entry{Kind: api.EntAdopt, Shard: s.Id, Data: encoded(v, s)}
}

func drops(id int) api.Entry { return api.Entry{Kind: api.EntDrop, Shard: id} }

func freezes(id int) api.Entry { return api.Entry{Kind: api.EntFreeze, Shard: id} }

func thaws(id int) api.Entry { return api.Entry{Kind: api.EntThaw, Shard: id} }

func calls(c api.Call) api.Entry {
	s, e := journal.Call(c)
	if e != api.OK {
		panic(fmt.Sprint("no right call: ", e, c))
	}
	return api.Entry{Kind: api.EntCall, Shard: c.Shard, Data: s}
}

// ask is a call of a client who puts something.
func ask(id, epoch, client, number int, key, value string) api.Call {
	return api.Call{Shard: id, Epoch: epoch, Client: client, Id: number, Op: api.Op{Kind: api.OpPut, Key: key, Value: value}}
}

// last is a client's last call.
func last(client, id int, keys ...string) api.Done {
	return api.Done{Client: client, Id: id, Reply: api.Reply{Errno: api.Errno(client % 200), Rev: id, Value: "v", Keys: keys}}
}

// bare is a shard that has nothing, in the epoch 5.
func bare(id int) api.Shard {
	return api.Shard{Id: id, Epoch: 5}
}

// some is a shard that has some of all. Its first record is one that version 1 writes with ten carried fields: as many as version 2 may make of one that carries all that it may.
func some(id int) api.Shard {
	s := api.Shard{Id: id, Epoch: 5, Cache: []api.Done{last(10, 100, "k", "", "l"), last(20, 7)}}
	all := api.Record{Key: "a", Value: "va", Rev: 1, Life: 7, Note: "na"}
	for tag := range 8 {
		all.Extra = append(all.Extra, api.Field{Tag: 6 + tag, Data: fmt.Sprint("x", tag, "\x00\xff")})
	}
	s.Table = []api.Record{all, {Key: "b", Value: fmt.Sprint("v", id), Rev: 2}, {Key: "c", Value: long(200), Rev: most}}
	return s
}

// crowded is a shard with as many keys, and clients, as there may be.
func crowded(id int) api.Shard {
	s := bare(id)
	for i := range api.MaxKeys {
		s.Table = append(s.Table, api.Record{Key: fmt.Sprintf("k%02d", i), Value: long(40 + i), Rev: i, Life: i % 3})
	}
	for i := range api.MaxClients {
		s.Cache = append(s.Cache, last(100+i, i+1, "k", "l", "m", "n", "o"))
	}
	return s
}

// sized is a shard whose bytes, by a version, in the epoch 6, are just so many: from 600 to 8000.
func sized(v, id, n int) api.Shard {
	of := func(tags, data int) api.Shard {
		r := api.Record{Key: "k", Value: "v", Rev: 1}
		for tag := range tags {
			r.Extra = append(r.Extra, api.Field{Tag: 6 + tag, Data: long(data)})
			data = 1000
		}
		return api.Shard{Id: id, Epoch: 6, Table: []api.Record{r}}
	}
	for tags := range 9 {
		for data := range 1001 {
			if s := of(tags, data); len(encoded(v, s)) == n {
				s.Epoch = 5
				return s
			}
		}
	}
	panic(fmt.Sprint("a shard that can't be: ", n))
}

// in is a shard in another epoch, frozen one that is frozen.
func in(epoch int, s api.Shard) api.Shard {
	s.Epoch = epoch
	return s
}

func frozen(s api.Shard) api.Shard {
	s.Frozen = true
	return s
}

// idle is a log of just so many bytes, from 500 on, of calls of a shard that are no calls to it: it has to be there.
func idle(v, id, n int) string {
	of := func(a, b int) string {
		return inLog(v, calls(api.Call{Shard: id, Op: api.Op{Key: long(a), Value: long(b), To: long(b)}}))
	}
	s := ""
	for n-len(s) > 3500 {
		s += of(1000, 1000)
	}
	if n-len(s) > 2000 {
		s += of(400, 400)
	}
	third := (n - len(s)) / 3
	for b := third - 20; b < third; b++ { // a length that needs a byte more leaves a gap
		left := n - len(s) - len(of(0, b))
		for a := left - 4; a <= left; a++ {
			if one := of(a, b); len(s)+len(one) == n {
				return s + one
			}
		}
	}
	panic(fmt.Sprint("a log that can't be: ", n))
}

// old is a host that is up, with shards on a disk of a format; fresh is another one.
func old(v int, l ...api.Shard) api.Host {
	return api.Host{Name: 1, Bin: 2, Up: true, Disk: api.Disk{Base: baseOf(v, l...)}}
}

func fresh(v int, l ...api.Shard) api.Host {
	h := old(v, l...)
	h.Name = 2
	return h
}

// down is a host that is not up, with all else as it was.
func down(h api.Host) api.Host {
	h.Up = false
	return h
}

// with is a host with another log.
func with(h api.Host, kept, pend string) api.Host {
	h.Disk.Kept, h.Disk.Pend = kept, pend
	return h
}

// broken are hosts whose disks Load does not read, by what it tells; each one has h's Base, but the first one.
func broken(h api.Host) map[api.Errno][]api.Host {
	none := h
	none.Disk = api.Disk{Base: "x"}
	v := int(h.Disk.Base[0] - '0')
	wrong, e := frame.Encode(v, api.Frame{Kind: 4, Data: "\x02x"})
	if e != api.OK {
		panic(e)
	}
	return map[api.Errno][]api.Host{
		11: {none, with(h, "x", ""), with(h, inLog(v, freezes(2)), "x")},
		22: {with(h, inLog(3-v, freezes(2)), ""), with(h, "", inLog(3-v, thaws(2)))},
		1:  {with(h, wrong, "")},
		83: {with(h, inLog(v, drops(7)), "")},
	}
}

// tornEnd tells whether a host of hostsOf has a torn end. What is written behind that is not read (chapter 15's Write writes it; chapter 16's Start leaves no such end to a host that is up).
func tornEnd(h api.Host) bool {
	return len(h.Disk.Pend) == 5
}

// bareFrame is how many bytes the frame of an entry without Data has.
const bareFrame = 9

// full is a host whose log has no room for an entry without Data, by one byte; tight one whose log has just that.
func full(h api.Host, id int) api.Host {
	v := int(h.Disk.Base[0] - '0')
	return with(h, idle(v, id, api.MaxLog-bareFrame+1), "")
}

func tight(h api.Host, id int) api.Host {
	v := int(h.Disk.Base[0] - '0')
	return with(h, idle(v, id, api.MaxLog-bareFrame), "")
}

// begun, onItsWay and there are moves of the shard 2 to the epoch 6.
func begun() api.Move { return api.Move{Shard: 2, Epoch: 6, Stage: 1} }

func onItsWay(v, come int, s api.Shard) api.Move {
	s.Frozen = false
	return api.Move{Shard: 2, Epoch: 6, Stage: 2, Version: v, Parts: wantSplit(encoded(v, in(6, s))), Come: come}
}

func there(v int, s api.Shard) api.Move {
	m := onItsWay(v, 0, s)
	m.Stage, m.Come = 3, len(m.Parts)
	return m
}

// wantSplit is Q1 by its words.
func wantSplit(s string) []string {
	var l []string
	for i := 0; i < len(s); i += 100 {
		if i+100 < len(s) {
			l = append(l, s[i:i+100])
		} else {
			l = append(l, s[i:])
		}
	}
	return l
}

// wantTold is what Q3 tells of the bytes of from's shard, and of the format of to's disk.
func wantTold(m api.Move, from, to api.Host) (api.Move, api.Errno) {
	if _, _, e := journal.Load(from.Disk); e != 0 {
		return m, e
	}
	v, _, e := journal.Load(to.Disk)
	if e != 0 {
		return m, e
	}
	for _, s := range host.Shards(from) {
		if s.Id == m.Shard && s.Epoch >= m.Epoch {
			return m, 1
		} else if s.Id == m.Shard {
			b, e := shard.Encode(v, api.Shard{Id: s.Id, Epoch: m.Epoch, Table: s.Table, Cache: s.Cache})
			m.Version, m.Parts, m.Come = v, wantSplit(b), 0
			return m, e
		}
	}
	return m, 83
}

// wantStep is Q3 by its words, but that with an error only the error is to be looked at.
func wantStep(m api.Move, from, to api.Host) (api.Move, api.Host, api.Host, api.Errno) {
	var e api.Errno
	v, _, toError := journal.Load(to.Disk)
	switch {
	case !from.Up || !to.Up:
		e = 90
	case m.Stage == 1:
		if m, e = wantTold(m, from, to); e == 0 {
			from, e = host.Put(from, freezes(m.Shard))
			m.Stage = 2
		}
	case m.Stage == 2 && m.Come < len(m.Parts):
		m.Come++
	case m.Stage == 2 && toError != 0:
		e = toError
	case m.Stage == 2 && v != m.Version:
		m, e = wantTold(m, from, to)
	case m.Stage == 2:
		to, e = host.Put(to, api.Entry{Kind: 1, Shard: m.Shard, Data: strings.Join(m.Parts, "")})
		m.Stage = 3
	case m.Stage == 3:
		if from, e = host.Put(from, drops(m.Shard)); e == 83 {
			e = 0
		}
		m.Stage = 4
	default:
		e = 1
	}
	return m, from, to, e
}

// wantGive is Q4 by its words, but that with an error only the error is to be looked at.
func wantGive(m api.Move, from api.Host) (api.Move, api.Host, api.Errno) {
	switch {
	case m.Stage == 1:
		m.Stage = 5
		return m, from, 0
	case m.Stage == 2 && !from.Up:
		return m, from, 90
	case m.Stage == 2:
		from, e := host.Put(from, thaws(m.Shard))
		m.Stage, m.Parts = 5, nil
		return m, from, e
	}
	return m, from, 1
}

// say is anything in a few words, whatever bytes it has.
func say(x any) string {
	return fmt.Sprintf("%.300q", fmt.Sprint(x))
}

// sameMove holds a move against another one.
func sameMove(a, b api.Move) bool {
	return a.Shard == b.Shard && a.Epoch == b.Epoch && a.Stage == b.Stage && a.Version == b.Version && a.Come == b.Come && slices.Equal(a.Parts, b.Parts)
}

// sameAll holds shards against others.
func sameAll(a, b []api.Shard) bool {
	return slices.EqualFunc(a, b, shard.Same)
}

// roomy is a move whose Parts have room behind them, in which something stands, and all of that memory.
func roomy(m api.Move) (api.Move, []string) {
	all := append(slices.Clone(m.Parts), "behind", "them")
	m.Parts = all[:len(m.Parts)]
	return m, all
}

// overwrite writes into all of a list, spare room too, and grows it.
func overwrite(l []string) {
	all := l[:cap(l)]
	for i := range all {
		all[i] = "over"
	}
	_ = append(l, "over", "over")
}

// next is a number that looks like chance, the same in each run.
func next(seed *uint64) int {
	*seed = *seed*6364136223846793005 + 1442695040888963407
	return int(*seed >> 33)
}

// checkStep holds Step against Q3's words, and asks that with an error all is as it was, that what is handed in, and what stands behind it, is not written into, and that what comes out is new memory.
func checkStep(t *testing.T, m api.Move, from, to api.Host) (api.Move, api.Host, api.Host, api.Errno) {
	t.Helper()
	wm, wf, wt, we := wantStep(m, from, to)
	if we != 0 {
		wm, wf, wt = m, from, to
	}
	given, all := roomy(m)
	was := slices.Clone(all)
	for _, again := range []string{"", ", asked again"} {
		n, f, h, e := Step(given, from, to)
		if !sameMove(n, wm) || f != wf || h != wt || e != we {
			t.Errorf("Step(%s, %s, %s)%s = %s, %s, %s, %d; want %s, %s, %s, %d", say(m), say(from), say(to), again, say(n), say(f), say(h), e, say(wm), say(wf), say(wt), we)
		}
		if e == 0 { // what is as it was may be what was handed in
			overwrite(n.Parts)
		}
		if !slices.Equal(all, was) {
			t.Fatalf("Step(%s, %s, %s)%s writes into what was handed in, or keeps it", say(m), say(from), say(to), again)
		}
	}
	return wm, wf, wt, we
}

// checkGive holds Give against Q4's words, and asks the same.
func checkGive(t *testing.T, m api.Move, from api.Host) (api.Move, api.Host, api.Errno) {
	t.Helper()
	wm, wf, we := wantGive(m, from)
	if we != 0 {
		wm, wf = m, from
	}
	given, all := roomy(m)
	was := slices.Clone(all)
	for _, again := range []string{"", ", asked again"} {
		n, f, e := Give(given, from)
		if !sameMove(n, wm) || f != wf || e != we {
			t.Errorf("Give(%s, %s)%s = %s, %s, %d; want %s, %s, %d", say(m), say(from), again, say(n), say(f), e, say(wm), say(wf), we)
		}
		if e == 0 {
			overwrite(n.Parts)
		}
		if !slices.Equal(all, was) {
			t.Fatalf("Give(%s, %s)%s writes into what was handed in, or keeps it", say(m), say(from), again)
		}
	}
	return wm, wf, we
}

// refused asks that a step is refused with that error, and that all is as it was.
func refused(t *testing.T, m api.Move, from, to api.Host, want api.Errno) {
	t.Helper()
	n, f, h, e := Step(m, from, to)
	if e != want || !sameMove(n, m) || f != from || h != to {
		t.Errorf("Step(%s, %s, %s): %d, %s, %s, %s; want %d, and all as it was", say(m), say(from), say(to), e, say(n), say(f), say(h), want)
	}
	checkStep(t, m, from, to)
}

// gaveNot asks the same of giving up.
func gaveNot(t *testing.T, m api.Move, from api.Host, want api.Errno) {
	t.Helper()
	n, f, e := Give(m, from)
	if e != want || !sameMove(n, m) || f != from {
		t.Errorf("Give(%s, %s): %d, %s, %s; want %d, and all as it was", say(m), say(from), e, say(n), say(f), want)
	}
	checkGive(t, m, from)
}

// stepped is what comes of a step that may be.
func stepped(t *testing.T, m api.Move, from, to api.Host) (api.Move, api.Host, api.Host) {
	t.Helper()
	n, f, h, e := checkStep(t, m, from, to)
	if e != api.OK {
		t.Fatalf("Step(%s, %s, %s): %d", say(m), say(from), say(to), e)
	}
	return n, f, h
}

// hasShards asks that a host has these shards.
func hasShards(t *testing.T, what string, h api.Host, want ...api.Shard) {
	t.Helper()
	if l := host.Shards(h); !sameAll(l, want) {
		t.Errorf("%s: %s has %s; want %s", what, say(h), say(l), say(want))
	}
}

// synced is a disk, all of whose log lasts.
func synced(d api.Disk, more string) api.Disk {
	return api.Disk{Base: d.Base, Kept: disk.Log(d) + more}
}
