package journal

import (
	"fmt"
	"math"
	"strings"
	"testing"

	"careen/api"
	"careen/disk"
)

// The chapter's example.
func TestExample(t *testing.T) {
	d, e := Write(Begin(1), api.Entry{Kind: api.EntAdopt, Shard: 2, Data: encoded(1, some(2))})
	if e != api.OK {
		t.Fatal(e)
	}
	checkLoad(t, d, 1, somes(2), 0)
	d, e = Rewrite(d, 2)
	if d != (api.Disk{Base: "2" + lead(encoded(2, some(2)))}) || e != api.OK {
		t.Error(say(d), e)
	}
	checkLoad(t, d, 2, somes(2), 0)
}

// O3, O5 and O6: written out: all bytes of a disk.
func TestBytes(t *testing.T) {
	one, two := "s\x02\x05\x00\x00\x00", sealed("t\x02\x05\x00\x00\x00")
	call := "\x02\x05\x0a\x65\x02\x00\x00\x01a\x01x\x00\x00"
	logOne := sealed("a\x01\x00\x07\x02"+one) + sealed("a\x04\x00\x01\x02") + sealed("a\x05\x00\x01\x02") + sealed("a\x03\x00\x0e\x02"+call)
	logTwo := sealed("b\x00\x01\x0b\x02"+two) + sealed("b\x00\x04\x01\x02") + sealed("b\x00\x05\x01\x02") + sealed("b\x00\x03\x0e\x02"+call)
	for v, want := range map[int]api.Disk{1: {Base: "1", Pend: logOne}, 2: {Base: "2", Pend: logTwo}} {
		d := written(t, Begin(v), adopts(v, bare(2)), freezes(2), thaws(2), calls(ask(2, 10, 101, put("a", "x"))))
		if d != want {
			t.Errorf("%q; want %q", d, want)
		}
		behind := api.Shard{Id: 2, Epoch: 5, Table: []api.Record{{Key: "a", Value: "x", Rev: 1}}, Cache: []api.Done{{Client: 10, Id: 101, Reply: api.Reply{Rev: 1}}}}
		checkLoad(t, d, v, []api.Shard{behind}, 0)
		d = written(t, d, adopts(v, bare(2)), adopts(v, bare(0)))
		for u, want := range map[int]string{1: "1\x06s\x00\x05\x00\x00\x00\x06" + one, 2: "2\x0a" + sealed("t\x00\x05\x00\x00\x00") + "\x0a" + two} {
			if r, e := Rewrite(d, u); r != (api.Disk{Base: want}) || e != api.OK {
				t.Errorf("%q, %d; want %q", r, e, want)
			}
			checkLoad(t, api.Disk{Base: want}, u, []api.Shard{bare(0), bare(2)}, 0)
		}
	}
}

// O3.
func TestBegin(t *testing.T) {
	for v, want := range map[int]string{math.MinInt: "", -1: "", 0: "", 1: "1", 2: "2", 3: "", 4: "", 9: "", 10: "", 49: "", 50: "", 257: "", 258: "", math.MaxInt: ""} {
		d := Begin(v)
		if d != (api.Disk{Base: want}) {
			t.Errorf("Begin(%d) = %s", v, say(d))
		}
		checkLoad(t, d, max(1, len(want)*v), nil, 0)
	}
}

// O4: Bases.
func TestLoadBase(t *testing.T) {
	for _, log := range []string{"", "a"} {
		checkLoad(t, api.Disk{Pend: log}, 1, nil, 0)
		checkLoad(t, api.Disk{Base: "1", Kept: log}, 1, nil, 0)
	}
	bodies := []string{"", lead(encoded(1, some(2))), lead(encoded(2, some(2)))}
	for c := range 256 {
		for v, body := range bodies {
			d := api.Disk{Base: string([]byte{byte(c)}) + body}
			if isDigit := c == '1' || c == '2'; isDigit && v == 0 {
				checkLoad(t, d, c-'0', nil, 0)
			} else if isDigit && v == c-'0' {
				checkLoad(t, d, v, somes(2), 0)
			} else {
				checkBroken(t, d, api.ErrForm)
			}
			checkDisk(t, d)
		}
	}
	for v := 1; v <= 2; v++ {
		for _, l := range lists() {
			checkLoad(t, api.Disk{Base: wantBase(v, l)}, v, l, 0)
			checkDisk(t, api.Disk{Base: wantBase(v, l)})
		}
		for _, ids := range [][]int{{2, 2}, {2, 1}, {0, 1, 1}, {0, 0, 1}, {1, 0, 2}, {0, 2, 1}, {7, 0}, {0, 1, 2, 3, 4, 5, 6, 7, 7}, {0, 1, 2, 3, 4, 5, 6, 7, 0}} {
			checkBroken(t, api.Disk{Base: wantBase(v, somes(ids...))}, api.ErrForm)
		}
		checkLoad(t, api.Disk{Base: wantBase(v, []api.Shard{great(0, 20, 40), great(5, 20, 0)})}, v, []api.Shard{great(0, 20, 40), great(5, 20, 0)}, 0)
	}
}

// O4: a Base that is cut off at each place, has more behind it, is changed at each byte; lengths that are longer than they need be, or greater than what is left.
func TestLoadBaseChanged(t *testing.T) {
	for v := 1; v <= 2; v++ {
		l := somes(1, 2, 6)
		all := wantBase(v, l)
		ends := map[int]bool{0: true} // where it may be cut off
		for k := range 4 {
			ends[len(wantBase(v, l[:k]))] = true
		}
		for k := range len(all) {
			if ends[k] {
				checkDisk(t, api.Disk{Base: all[:k]})
			} else {
				checkBroken(t, api.Disk{Base: all[:k]}, api.ErrForm)
			}
			for _, b := range []byte{0, 1, 2, 127, 128, 255, all[k] + 1, all[k] - 1, all[k] ^ 1, all[k] ^ 3, all[k] ^ 128} {
				checkDisk(t, api.Disk{Base: all[:k] + string([]byte{b}) + all[k+1:]})
			}
			checkDisk(t, api.Disk{Base: all[:k] + all[k+1:]})
		}
		for _, more := range []string{"\x00", "\x01", "\x80", "1", "2", "s", "t", "\xff", all, all[1:], long(500)} {
			checkBroken(t, api.Disk{Base: all + more}, api.ErrForm)
			checkBroken(t, api.Disk{Base: more[:1] + all}, api.ErrForm)
		}
		digit, s := string([]byte{byte(48 + v)}), encoded(v, bare(2))
		for _, n := range []string{"", num(len(s) - 1), num(len(s) + 1), num(128), num(most), num(most + 1), num(math.MaxInt), string([]byte{byte(len(s)) | 128, 0}), "\xff\xff\xff\xff\xff\xff\xff\x7f", "\x80"} {
			checkBroken(t, api.Disk{Base: digit + n + s}, api.ErrForm)
		}
		checkBroken(t, api.Disk{Base: digit + "\x00"}, api.ErrForm)
		checkBroken(t, api.Disk{Base: digit + "\x00" + lead(s)}, api.ErrForm)
		checkBroken(t, api.Disk{Base: digit + lead(encoded(3-v, bare(2)))}, api.ErrForm)
		checkBroken(t, api.Disk{Base: digit + lead(s) + lead(encoded(3-v, bare(3)))}, api.ErrForm)
	}
}

// O4: a log's frames: cut off, with a wrong sum, of the other version, that are no entries, that have Flags, that can't be applied.
func TestLoadLog(t *testing.T) {
	for v := 1; v <= 2; v++ {
		base := wantBase(v, somes(2))
		frozen, c := some(2), ask(2, 10, 101, put("a", "x"))
		frozen.Frozen = true
		good, other := inLog(v, freezes(2)), inLog(3-v, freezes(2))
		checks := func(log string, want api.Errno) {
			t.Helper()
			var l []api.Shard
			u := v
			if want == api.OK {
				l = []api.Shard{frozen}
			} else {
				u = 0
			}
			for k := 0; k <= len(log); k += 1 + len(log)/9 { // whatever lasts of the log, and whatever pends
				d := api.Disk{Base: base, Kept: log[:k], Pend: log[k:]}
				checkLoad(t, d, u, l, want)
				checkDisk(t, d)
			}
		}
		checks(good, 0)
		for k := range len(good) {
			checks(good+good[:k], 0)
		}
		checks(good+other, 22)
		checks(other, 22)
		checks(good+other[:1], 22)
		checks(good+"x", 11)
		checks("\x00"+good, 11)
		wrong := good[:len(good)-1] + string([]byte{good[len(good)-1] + 1})
		checks(good+wrong, 11)
		checks(wrong+good, 11)
		for _, data := range []string{"", "\x80", "\x80\x00", "\xff\xff\xff\xff\xff\xff\xff\x7f", num(most + 1), "\x82\x00"} {
			for _, kind := range []int{1, 2, 3, 4, 5, 6, 9} {
				checks(good+framed(v, kind, data), 11)
				checks(framed(v, kind, data)+good, 11)
			}
		}
		for _, kind := range []int{6, 7, 8, 9} {
			checks(good+framed(v, kind, "\x02"), 1)
			checks(good+framed(v, kind, "\x02x"), 1)
		}
		for e, want := range map[api.Entry]api.Errno{
			drops(3): 83, freezes(3): 83, thaws(3): 83, calls(ask(3, 10, 101, put("a", "x"))): 83, freezes(8): 83, freezes(most): 83,
			{Kind: 2, Shard: 2, Data: "x"}: 1, {Kind: 4, Shard: 2, Data: "\x00"}: 1, {Kind: 5, Shard: 3, Data: "x"}: 1,
			{Kind: 1, Shard: 2}: 11, {Kind: 1, Shard: 2, Data: "x"}: 11, {Kind: 1, Shard: 3, Data: encoded(v, some(2))}: 11, {Kind: 1, Shard: 2, Data: encoded(3-v, some(2))}: 11,
			{Kind: 3, Shard: 2}: 11, {Kind: 3, Shard: 2, Data: "x"}: 11, {Kind: 3, Shard: 3, Data: wantCall(c)}: 11, {Kind: 3, Shard: 2, Data: wantCall(c) + "\x00"}: 11,
		} {
			checks(good+inLog(v, e), want)
			checks(inLog(v, e)+good, want)
			checks(good+inLog(v, e)+good[:5], want)
		}
		checks(inLog(v, drops(2))+good, 83)
		checks(inLog(v, drops(2))+inLog(v, adopts(v, some(2)))+good, 0)
		checks(good+inLog(v, calls(c)), 0)
	}
	two := wantBase(2, somes(2))
	for _, flags := range []int{0, 1, 2, 128, 255} {
		want := api.Errno(api.ErrForm)
		if flags == 0 {
			want = api.OK
		}
		for _, log := range []string{flagged(flags, 4, "\x02"), flagged(0, 4, "\x02") + flagged(flags, 5, "\x02"), flagged(flags, 5, "\x02") + flagged(0, 4, "\x02")} {
			if _, _, e := Load(api.Disk{Base: two, Kept: log}); e != want {
				t.Errorf("Flags %d: %d; want %d", flags, e, want)
			}
			checkDisk(t, api.Disk{Base: two, Pend: log})
		}
		checkBroken(t, api.Disk{Base: two, Kept: flagged(max(flags, 1), 200, "\x02")}, api.ErrForm)
	}
	for _, kind := range []int{10, 100, 255} {
		checkBroken(t, api.Disk{Base: two, Kept: flagged(0, kind, "\x02")}, api.ErrArg)
	}
}

// O4: a log whose bytes are changed, each one by itself, and that is cut off at each place.
func TestLoadLogChanged(t *testing.T) {
	for v := 1; v <= 2; v++ {
		log := inLog(v, adopts(v, bare(2))) + inLog(v, calls(ask(2, 10, 101, put("a", "x")))) + inLog(v, freezes(2))
		for k := range len(log) {
			checkDisk(t, api.Disk{Base: wantBase(v, nil), Kept: log[:k]})
			checkDisk(t, api.Disk{Base: wantBase(v, nil), Kept: log[:k/2], Pend: log[k/2 : k]})
			for _, b := range []byte{0, 1, 2, 97, 98, 127, 128, 255, log[k] + 1, log[k] ^ 1, log[k] ^ 128} {
				changed := log[:k] + string([]byte{b}) + log[k+1:]
				checkDisk(t, api.Disk{Base: wantBase(v, nil), Kept: changed[:k], Pend: changed[k:]})
			}
		}
	}
}

// O4: the op of version 2 in a log of the format 1, as Write lets nobody have it: the call is refused, and that is no error.
func TestLoadMark(t *testing.T) {
	c := ask(2, 10, 101, mark("a"))
	checkLoad(t, api.Disk{Base: wantBase(1, somes(2)), Kept: inLog(1, calls(c))}, 1, somes(2), 0)
	marked := some(2)
	marked.Table[0].Rev, marked.Table[0].Life, marked.Table[0].Note = 2, 9, "m"
	marked.Cache[0] = api.Done{Client: 10, Id: 101, Reply: api.Reply{Rev: 2}}
	checkLoad(t, api.Disk{Base: wantBase(2, somes(2)), Kept: inLog(2, calls(c))}, 2, []api.Shard{marked}, 0)
}

// hurt is a disk and what is asked of it, of which several things may be wrong.
type hurt struct {
	v            int
	base         []api.Shard
	front        string // ahead of the Base
	log          []string
	behind       string // of the log
	call         api.Call
	format, room int
}

// disk is the disk; its log is filled up, but for so much room, by calls that shard 0 refuses, if there is to be less than all.
func (h hurt) disk() api.Disk {
	log := strings.Join(h.log, "")
	if h.room > 0 {
		log = filler(h.v, 100000-h.room-len(log)-len(h.behind)) + log
	}
	return api.Disk{Base: h.front + wantBase(h.v, h.base), Kept: log[:len(log)/2], Pend: log[len(log)/2:] + h.behind}
}

// entry is what is written: the call, for shard 2.
func (h hurt) entry() api.Entry {
	return api.Entry{Kind: 3, Shard: 2, Data: wantCall(h.call)}
}

// filler is a log of so many bytes, which changes nothing: of calls of shard 0, whose Value and Note are too long, and which chapter 14 refuses.
func filler(v, size int) string {
	entry := func(value, note int) string {
		return inLog(v, calls(ask(0, 10, 101, api.Op{Kind: 2, Key: "a", Value: long(value), Note: long(note)})))
	}
	var b strings.Builder
	for size-b.Len() > 4200 {
		b.WriteString(entry(1000, 1000))
	}
	for size-b.Len() > 1000 {
		b.WriteString(entry(201, 130))
	}
	left := size - b.Len()
	for value := max(201, left-30); value < left; value++ { // its Value is all but a few bytes of an entry
		if one := entry(value, 0); len(one) == left {
			return b.String() + one
		}
	}
	panic(fmt.Sprint("no filler of ", size))
}

// fault is something wrong, and the error that tells it.
type fault struct {
	name  string
	e     api.Errno
	spoil func(h *hurt)
}

// diskFaults are what O4 names, in its order.
func diskFaults(v int) []fault {
	return []fault{
		{"a Base that is none", api.ErrForm, func(h *hurt) { h.front = "x" }},
		{"a log of the other version", api.ErrVersion, func(h *hurt) { h.behind = inLog(3-v, freezes(0)) }},
		{"a frame that is no entry", api.ErrForm, func(h *hurt) { h.log = append(h.log, framed(v, 4, "")) }},
		{"an entry that can't be applied", api.ErrShard, func(h *hurt) { h.log = append([]string{inLog(v, freezes(6))}, h.log...) }},
	}
}

// checkFaults tries all sets of faults: the first one of each is told.
func checkFaults(t *testing.T, all []fault, begin func() hurt, try func(h hurt) (api.Disk, api.Errno, api.Disk)) {
	t.Helper()
	for set := range 1 << len(all) {
		h, want, names := begin(), api.Errno(api.OK), ""
		for i := len(all) - 1; i >= 0; i-- {
			if set>>i&1 == 1 {
				all[i].spoil(&h)
				want, names = all[i].e, all[i].name+"; "+names
			}
		}
		d, e, was := try(h)
		if e != want || e != api.OK && d != was {
			t.Errorf("%s%d; want %d, and the disk as it was", names, e, want)
		}
	}
}

// O4: several things wrong at once, in all sets.
func TestLoadOrder(t *testing.T) {
	for v := 1; v <= 2; v++ {
		begin := func() hurt { return hurt{v: v, base: somes(0, 2), log: []string{inLog(v, freezes(2))}} }
		checkFaults(t, diskFaults(v), begin, func(h hurt) (api.Disk, api.Errno, api.Disk) {
			d := h.disk()
			u, l, e := Load(d)
			if e != api.OK && (u != 0 || len(l) > 0) {
				t.Errorf("with %d there are %d, %s", e, u, say(l))
			}
			checkDisk(t, d)
			return d, e, d
		})
	}
}

// O5: several things wrong at once, in all sets.
func TestWriteOrder(t *testing.T) {
	for v := 1; v <= 2; v++ {
		all := diskFaults(v)
		if v == 1 {
			all = append(all, fault{"an op of version 2", api.ErrVersion, func(h *hurt) { h.call.Op.Kind = api.OpMark }})
		}
		all = append(all,
			fault{"another shard's call", api.ErrForm, func(h *hurt) { h.call.Shard = 0 }},
			fault{"no such shard", api.ErrShard, func(h *hurt) { h.base = somes(0) }},
			fault{"more than a frame holds", api.ErrArg, func(h *hurt) {
				h.call.Op.Key, h.call.Op.Value, h.call.Op.To, h.call.Op.Note = long(1000), long(1000), long(1000), long(1000)
			}},
			fault{"no room", api.ErrFull, func(h *hurt) { h.room = 20 }},
		)
		begin := func() hurt {
			return hurt{v: v, base: somes(0, 2), log: []string{inLog(v, freezes(0))}, call: ask(2, 10, 101, put("a", "x"))}
		}
		checkFaults(t, all, begin, func(h hurt) (api.Disk, api.Errno, api.Disk) {
			was := h.disk()
			d, e := checkWrite(t, was, h.entry())
			return d, e, was
		})
	}
}

// O6: several things wrong at once, in all sets.
func TestRewriteOrder(t *testing.T) {
	for v := 1; v <= 2; v++ {
		for _, none := range []int{math.MinInt, -1, 0, 3, 4, 258, math.MaxInt} {
			all := append(diskFaults(v),
				fault{"a format that is none", api.ErrArg, func(h *hurt) { h.format = none }},
				fault{"no room", api.ErrFull, func(h *hurt) { h.base = append(h.base, great(7, 20, 0)) }},
			)
			begin := func() hurt {
				return hurt{v: v, base: somes(0, 2), log: []string{inLog(v, freezes(2))}, format: none&1 + 1}
			}
			checkFaults(t, all, begin, func(h hurt) (api.Disk, api.Errno, api.Disk) {
				was := h.disk()
				d, e := checkRewrite(t, was, h.format)
				return d, e, was
			})
		}
	}
}

// O5: what is written stands behind the log, is not synced, and nothing else is changed.
func TestWrite(t *testing.T) {
	for v := 1; v <= 2; v++ {
		d := api.Disk{Base: wantBase(v, somes(0, 2)), Kept: inLog(v, drops(0)), Pend: inLog(v, freezes(2))}
		for _, e := range []api.Entry{adopts(v, some(0)), adopts(v, bare(2)), drops(2), freezes(2), thaws(2), calls(ask(2, 10, 101, put("c", "x"))), calls(ask(2, 10, 1, api.Op{Kind: 1, Key: "a"})), calls(ask(2, 0, 0, api.Op{}))} {
			u, f := checkWrite(t, d, e)
			if u != (api.Disk{Base: d.Base, Kept: d.Kept, Pend: d.Pend + inLog(v, e)}) || f != api.OK {
				t.Errorf("Write(%s, %s) = %s, %d", say(d), say(e), say(u), f)
			}
			checkDisk(t, u)
			u, f = checkWrite(t, disk.Sync(d), e)
			if u != (api.Disk{Base: d.Base, Kept: d.Kept + d.Pend, Pend: inLog(v, e)}) || f != api.OK {
				t.Errorf("synced, Write(%s, %s) = %s, %d", say(d), say(e), say(u), f)
			}
		}
		for _, e := range entries() {
			checkWrite(t, d, e)
			checkWrite(t, Begin(v), e)
		}
	}
	for _, e := range entries() { // an empty Base is the format 1
		checkWrite(t, api.Disk{}, e)
	}
	if d, f := Write(api.Disk{}, adopts(1, bare(2))); d != (api.Disk{Pend: inLog(1, adopts(1, bare(2)))}) || f != api.OK {
		t.Errorf("%s, %d", say(d), f)
	}
}

// O5: the op of version 2: in the format 1 it is refused, whatever is wrong with the entry, if it is a call's; in the format 2 it is not.
func TestWriteMark(t *testing.T) {
	c := ask(2, 10, 101, mark("a"))
	for v := 1; v <= 2; v++ {
		for _, d := range []api.Disk{{Base: wantBase(v, somes(2))}, {Base: wantBase(v, somes(3))}, {Base: wantBase(v, nil), Kept: inLog(v, adopts(v, some(2)))}} {
			for _, c := range []api.Call{c, ask(2, 0, 0, mark("")), ask(2, 10, 101, api.Op{Kind: 5, Key: long(1000)})} {
				u, f := checkWrite(t, d, calls(c))
				if v == 1 && (f != api.ErrVersion || u != d) || v == 2 && f == api.ErrVersion {
					t.Errorf("format %d: %d", v, f)
				}
				u, f = checkWrite(t, d, api.Entry{Kind: 3, Shard: 1, Data: wantCall(c)})
				if v == 1 && (f != api.ErrVersion || u != d) || v == 2 && f != api.ErrForm {
					t.Errorf("format %d, of another shard: %d", v, f)
				}
			}
			for _, e := range []api.Entry{
				{Kind: 3, Shard: 2, Data: wantCall(c) + "\x00"}, {Kind: 3, Shard: 2, Data: wantCall(c)[:10]}, {Kind: 3, Shard: 2, Data: wantCall(ask(2, 10, 101, mark(long(1001))))}, // no call's bytes
				{Kind: 1, Shard: 2, Data: wantCall(c)},
			} {
				if _, f := checkWrite(t, d, e); f != api.ErrForm {
					t.Errorf("format %d, %s: %d", v, say(e), f)
				}
			}
			for _, kind := range []int{0, 2, 4, 5, 6} {
				if _, f := checkWrite(t, d, api.Entry{Kind: kind, Shard: 2, Data: wantCall(c)}); f != api.ErrArg {
					t.Errorf("format %d, kind %d: %d", v, kind, f)
				}
			}
		}
	}
	if _, f := Write(api.Disk{Kept: inLog(1, adopts(1, some(2)))}, calls(c)); f != api.ErrVersion {
		t.Errorf("an empty Base: %d", f)
	}
}

// O5: as many bytes as a frame holds, and one more.
func TestWriteGreatest(t *testing.T) {
	for v := 1; v <= 2; v++ {
		for n, want := range map[int]api.Errno{3998: 0, 3999: 0, 4000: 1, 4001: 1, 5000: 1} { // with the shard's number one more
			s := bare(2)
			s.Table = []api.Record{{Key: "a", Extra: []api.Field{{Tag: 6, Data: long(1000)}, {Tag: 7, Data: long(1000)}, {Tag: 8, Data: long(1000)}, {Tag: 9, Data: long(900)}, {Tag: 10}}}}
			for len(encoded(v, s)) < n && len(s.Table[0].Extra[4].Data) < 1000 {
				s.Table[0].Extra[4].Data += "x"
			}
			for len(encoded(v, s)) < n {
				s.Table[0].Value += "x"
			}
			if len(encoded(v, s)) != n {
				t.Fatalf("the shard has %d bytes, not %d", len(encoded(v, s)), n)
			}
			d := Begin(v)
			u, f := checkWrite(t, d, adopts(v, s))
			if f != want || f != api.OK && u != d {
				t.Errorf("%d bytes, format %d: %d; want %d", n, v, f, want)
			}
			if f == api.OK {
				checkLoad(t, u, v, []api.Shard{s}, 0)
			}
		}
		c := ask(2, 10, 101, put(long(1000), long(1000)))
		c.Op.To = long(1000)
		for n := 900; n <= 1000; n += 1 {
			c.Op.Note = long(n)
			_, f := checkWrite(t, api.Disk{Base: wantBase(v, somes(2))}, calls(c))
			if want := len(wantCall(c)) >= 4000; f == api.ErrArg != want || f != api.OK != want {
				t.Errorf("a call of %d bytes: %d", len(wantCall(c)), f)
			}
		}
	}
}

// O5: a log that has just room for an entry, or has one byte too little, whatever of it is synced.
func TestWriteRoom(t *testing.T) {
	for v := 1; v <= 2; v++ {
		e := calls(ask(2, 10, 101, put("c", "x")))
		size := len(inLog(v, e))
		for room, want := range map[int]api.Errno{0: 50, 1: 50, size - 1: 50, size: 0, size + 1: 0} {
			log := filler(v, 100000-room)
			for _, k := range []int{0, 7, len(log)} {
				d := api.Disk{Base: wantBase(v, somes(0, 2)), Kept: log[:k], Pend: log[k:]}
				u, f := checkWrite(t, d, e)
				if f != want || f != api.OK && u != d {
					t.Errorf("room %d, format %d: %d; want %d", room, v, f, want)
				}
			}
		}
		d := api.Disk{Base: wantBase(v, somes(0, 2)), Kept: filler(v, 100000) + inLog(v, freezes(2))} // more than there may be, as no call makes it
		checkDisk(t, d)
	}
}

// fit are three shards whose Base has so many bytes, by version 1, and twelve more by version 2: four for each one's sum.
func fit(t *testing.T, size int) []api.Shard {
	t.Helper()
	l := []api.Shard{great(0, 12, 0), some(2), bare(7)}
	left := size - len(wantBase(1, l[:2]))
	for n := range left {
		r := api.Record{Key: "a"}
		for k := range 8 {
			r.Extra = append(r.Extra, api.Field{Tag: 6 + k, Data: long(min(1000, max(0, n-1000*k)))})
		}
		for value := range 3 {
			r.Value = long(value)
			l[2].Table = []api.Record{r}
			if len(lead(encoded(1, l[2]))) == left && len(wantBase(2, l)) == size+12 {
				return l
			}
		}
	}
	t.Fatal("no shards fit ", size)
	return nil
}

// O6: a Base that has just room, and one that has a byte too many.
func TestRewriteRoom(t *testing.T) {
	for size, want := range map[int][3]api.Errno{99987: {}, 99988: {}, 99989: {2: 50}, 99999: {2: 50}, 100000: {2: 50}, 100001: {1: 50, 2: 50}, 100002: {1: 50, 2: 50}} {
		l := fit(t, size)
		for v := 1; v <= 2; v++ {
			d := api.Disk{Base: wantBase(v, l), Kept: inLog(v, freezes(2)), Pend: inLog(v, thaws(2))}
			for u := 1; u <= 2; u++ {
				x, f := checkRewrite(t, d, u)
				if f != want[u] || f == api.OK && x != (api.Disk{Base: wantBase(u, l)}) || f != api.OK && x != d {
					t.Errorf("of %d bytes, from format %d to %d: %d; want %d", size, v, u, f, want[u])
				}
			}
		}
	}
}

// O6: of all shards, from each format to each one, from the Base and from the log, whatever of it is synced; to none.
func TestRewrite(t *testing.T) {
	for _, l := range lists() {
		for v := 1; v <= 2; v++ {
			based, logged := api.Disk{Base: wantBase(v, l)}, Begin(v)
			for _, s := range l {
				if len(encoded(v, s)) < 3000 {
					logged = disk.Sync(written(t, logged, adopts(v, bare(s.Id))))
					logged = written(t, logged, adopts(v, s))
				}
			}
			torn := logged
			torn.Pend += inLog(v, freezes(0))[:5]
			for _, d := range []api.Disk{based, logged, disk.Sync(logged), torn} {
				_, behind, _ := wantLoad(d)
				for u := 1; u <= 2; u++ {
					if x, f := checkRewrite(t, d, u); x != (api.Disk{Base: wantBase(u, behind)}) || f != api.OK {
						t.Errorf("Rewrite(%s, %d) = %s, %d", say(d), u, say(x), f)
					}
				}
				for _, u := range []int{math.MinInt, -1, 0, 3, 4, 257, math.MaxInt} {
					if x, f := checkRewrite(t, d, u); x != d || f != api.ErrArg {
						t.Errorf("Rewrite(%s, %d) = %s, %d", say(d), u, say(x), f)
					}
				}
			}
		}
	}
}
