package host

import (
	"fmt"
	"math"
	"testing"

	"careen/api"
	"careen/disk"
	"careen/shard"
)

// The chapter's example: a host that has a shard, and is asked: what was replied is there behind a torn call, which is not, or is, and is then replied as done.
func TestExample(t *testing.T) {
	for bin := 1; bin <= 2; bin++ {
		h := asked(t, filled(t, New(7, bin), adopts(1, bare(3))), ask(3, 1, 1, put("a", "x")), 0, 1)
		want := api.Shard{Id: 3, Epoch: 5, Table: []api.Record{{Key: "a", Value: "x", Rev: 1}}, Cache: []api.Done{{Client: 1, Id: 1, Reply: api.Reply{Rev: 1}}}}
		checkShards(t, h, []api.Shard{want})
		c := ask(3, 1, 2, put("a", "y"))
		torn := started(t, Torn(h, c, 5), bin)
		checkShards(t, torn, []api.Shard{want})
		asked(t, torn, ask(3, 1, 1, put("a", "x")), 0, 1)
		asked(t, torn, c, 0, 2)
		want.Table[0], want.Cache[0] = api.Record{Key: "a", Value: "y", Rev: 2}, api.Done{Client: 1, Id: 2, Reply: api.Reply{Rev: 2}}
		whole := started(t, Torn(h, c, 100), bin)
		checkShards(t, whole, []api.Shard{want})
		if again := asked(t, whole, c, 0, 2); again != whole {
			t.Errorf("a torn call that was done is done again: %s", say(again))
		}
	}
}

// W1 to W5: written out: all bytes of a host's disk, in either format.
func TestBytes(t *testing.T) {
	one, two := "s\x02\x05\x00\x00\x00", sealed("t\x02\x05\x00\x00\x00")
	call := "\x02\x05\x0a\x65\x02\x00\x00\x01a\x01x\x00\x00"
	done := "\x09\x01\x01a\x02\x01x\x03\x01\x01" // the record, by version 1 or 2
	rep := "\x0a\x65\x00\x01\x00\x00"            // the reply that was kept
	for v, want := range map[int][4]string{
		1: {"1", sealed("a\x01\x00\x07\x02" + one), sealed("a\x03\x00\x0e\x02" + call), "1" + lead("s\x02\x05\x00\x01\x01"+done+rep)},
		2: {"2", sealed("b\x00\x01\x0b\x02" + two), sealed("b\x00\x03\x0e\x02" + call), "2" + lead(sealed("t\x02\x05\x00\x01\x01"+done+rep))},
	} {
		is := func(h api.Host, up bool, d api.Disk) {
			t.Helper()
			checkHost(t, fmt.Sprint("format ", v), h, 0, api.Host{Name: 3, Bin: 2, Up: up, Disk: d}, 0)
		}
		h, _ := Format(New(3, 2), v)
		is(h, true, api.Disk{Base: want[0]})
		h = filled(t, h, adopts(v, bare(2)))
		is(h, true, api.Disk{Base: want[0], Kept: want[1]})
		c := ask(2, 10, 101, put("a", "x"))
		for keep := range len(want[2]) + 1 {
			is(Torn(h, c, keep), false, api.Disk{Base: want[0], Kept: want[1] + want[2][:keep]})
		}
		h = asked(t, h, c, 0, 1)
		is(h, true, api.Disk{Base: want[0], Kept: want[1] + want[2]})
		is(Stop(h), false, api.Disk{Base: want[0], Kept: want[1] + want[2]})
		is(started(t, Stop(h), 2), true, api.Disk{Base: want[3]})
		h, _ = Format(h, v)
		is(h, true, api.Disk{Base: want[3]})
	}
}

// numbers are some that are no version, and the two that are.
func numbers() []int {
	return []int{math.MinInt, -2, -1, 0, 1, 2, 3, 4, 49, 50, 255, 256, 257, 258, most, math.MaxInt}
}

// W1.
func TestNew(t *testing.T) {
	for _, name := range []int{math.MinInt, -1, 0, 1, 7, 100, 101, math.MaxInt} {
		for _, bin := range numbers() {
			want := api.Host{}
			if bin == 1 || bin == 2 {
				want = api.Host{Name: name, Bin: bin, Up: true, Disk: api.Disk{Base: "1"}}
			}
			checkHost(t, fmt.Sprintf("New(%d, %d)", name, bin), New(name, bin), 0, want, 0)
			checkShards(t, want, nil)
		}
	}
}

// W1: the shards are those of the base, and of the log, whatever binary there is, and whether the host is up or not.
func TestShards(t *testing.T) {
	for v := 1; v <= 2; v++ {
		base, freeze := baseOf(v, somes(0, 2, 5)...), inLog(v, freezes(2))
		for d, want := range map[api.Disk][]api.Shard{
			{Base: baseOf(v)}: nil,
			{Base: base}:      somes(0, 2, 5),
			{Base: base, Kept: freeze, Pend: inLog(v, drops(5))}:          {some(0), frozen(2)},
			{Base: base, Pend: freeze + inLog(v, adopts(v, bare(1)))[:9]}: {some(0), frozen(2), some(5)},
			{Base: base, Kept: freeze, Pend: "x"}:                         nil,
			{Base: base + "x"}:                                            nil,
			{Base: "3"}:                                                   nil,
			{}:                                                            nil,
		} {
			for _, bin := range []int{-1, 0, 1, 2, 3} {
				checkShards(t, up(bin, d), want)
				checkShards(t, down(bin, d), want)
			}
		}
	}
	for d := range broken() {
		checkShards(t, up(2, d), nil)
		checkShards(t, down(2, d), nil)
	}
}

// W1 to W5: all hosts, held against the words: each binary, each disk, up and not.
func TestByTheWords(t *testing.T) {
	for _, bin := range []int{0, 1, 2, 3} {
		for v := 1; v <= 2; v++ {
			for _, d := range disks(v) {
				checkAll(t, up(bin, d))
				checkAll(t, down(bin, d))
			}
		}
	}
	for d := range broken() {
		checkAll(t, up(2, d))
		checkAll(t, down(2, d))
	}
	checkAll(t, api.Host{})
}

// W4: what is put is there, and lasts: nothing pends.
func TestPut(t *testing.T) {
	for v := 1; v <= 2; v++ {
		h := up(2, api.Disk{Base: baseOf(v, somes(0, 2, 5)...)})
		behind, _, _ := shard.Ask(v, some(2), ask(2, 10, 101, put("c", "x")))
		for e, want := range map[api.Entry][]api.Shard{
			adopts(v, bare(1)):                    {some(0), bare(1), some(2), some(5)},
			adopts(v, bare(2)):                    {some(0), bare(2), some(5)},
			drops(2):                              somes(0, 5),
			freezes(2):                            {some(0), frozen(2), some(5)},
			thaws(2):                              somes(0, 2, 5),
			calls(ask(2, 10, 101, put("c", "x"))): {some(0), behind, some(5)},
			calls(ask(2, 10, 99, put("c", "x"))):  somes(0, 2, 5),
			calls(ask(2, 10, 101, get("c"))):      somes(0, 2, 5),
		} {
			got, f := checkPut(t, h, e)
			wish := h
			wish.Disk.Kept = inLog(v, e)
			checkHost(t, say(e), got, f, wish, 0)
			checkShards(t, got, want)
			checkShards(t, Stop(got), want)
			checkShards(t, started(t, Stop(got), 2), want)
		}
		soft := h // what pended ahead of it lasts then, too
		soft.Disk.Pend = inLog(v, freezes(0))
		got, f := Put(soft, drops(5))
		soft.Disk = api.Disk{Base: h.Disk.Base, Kept: inLog(v, freezes(0)) + inLog(v, drops(5))}
		checkHost(t, "what pended", got, f, soft, 0)
	}
}

// W4: entries that Write refuses, each way; the host is as it was.
func TestPutRefuses(t *testing.T) {
	for v := 1; v <= 2; v++ {
		h := up(2, api.Disk{Base: baseOf(v, somes(0, 2, 5)...), Kept: inLog(v, freezes(5)), Pend: inLog(v, freezes(0))})
		c := ask(3, 10, 101, put("a", "x"))
		refused := map[api.Entry]api.Errno{
			{}: 1, {Kind: 6, Shard: 2}: 1, {Kind: -1, Shard: 2}: 1, {Kind: 2, Shard: 2, Data: "x"}: 1, {Kind: 4, Shard: 2, Data: "x"}: 1, {Kind: 5, Shard: 3, Data: "x"}: 1,
			{Kind: 1, Shard: 2}: 11, {Kind: 1, Shard: 3, Data: encoded(v, some(2))}: 11, adopts(3-v, some(2)): 11,
			{Kind: 3, Shard: 2}: 11, {Kind: 3, Shard: 2, Data: bytesOf(c)}: 11,
			drops(3): 83, freezes(3): 83, thaws(9): 83, freezes(-1): 83, calls(c): 83,
			adopts(v, great(2, 1, 0, 0)): 1, // too long for a frame
		}
		refused[calls(ask(2, 10, 101, mark("a")))] = []api.Errno{0, 22, 0}[v]
		refused[calls(ask(3, 10, 101, mark("a")))] = []api.Errno{0, 22, 83}[v]
		for e, want := range refused {
			got, f := checkPut(t, h, e)
			if want != api.OK {
				checkHost(t, "refused: "+say(e), got, f, h, want)
			}
		}
		for d, want := range broken() {
			for _, e := range []api.Entry{drops(2), {}, adopts(v, some(3)), calls(ask(2, 10, 101, mark("a"))), adopts(v, great(2, 1, 0, 0))} {
				got, f := Put(up(2, d), e)
				checkHost(t, "broken: "+say(d), got, f, up(2, d), want)
			}
		}
	}
}

// W4: all entries to all disks; what several of them tell is told often enough.
func TestPutByTheWords(t *testing.T) {
	told := map[api.Errno]int{}
	for v := 1; v <= 2; v++ {
		for _, d := range disks(v) {
			for _, e := range entries() {
				for _, h := range []api.Host{up(v, d), down(v, d)} {
					_, f := checkPut(t, h, e)
					told[f]++
				}
			}
		}
	}
	for _, f := range []api.Errno{0, 1, 11, 22, 83, 90} {
		if told[f] < 20 {
			t.Errorf("%d is told %d times", f, told[f])
		}
	}
}

// W4: several things wrong with a Put at once, in all sets: the first one is told.
func TestPutOrder(t *testing.T) {
	for v := 1; v <= 2; v++ {
		base := baseOf(v, somes(0, 2, 5)...)
		for e, want := range map[api.Entry]api.Errno{
			freezes(2): 0, drops(3): 83, {Kind: 7, Shard: 3, Data: "x"}: 1, {Kind: 1, Shard: 2, Data: long(5000)}: 11, adopts(v, great(2, 1, 0, 0)): 1,
			calls(ask(2, 10, 101, mark("a"))): []api.Errno{0, 22, 0}[v], calls(ask(3, 10, 101, mark("a"))): []api.Errno{0, 22, 83}[v],
			{Kind: 3, Shard: 3, Data: bytesOf(ask(2, 10, 101, mark("a")))}: []api.Errno{0, 22, 11}[v],
		} {
			for set := range 8 {
				h, want := up(2, api.Disk{Base: base}), want
				if set&4 > 0 {
					h.Disk.Kept = idle(v, 2, api.MaxLog)
					if want == api.OK {
						want = api.ErrFull
					}
				}
				if set&2 > 0 {
					h.Disk.Pend, want = "x", api.ErrForm
				}
				if set&1 > 0 {
					h.Up, want = false, api.ErrDown
				}
				got, f := Put(h, e)
				wish := h
				if want == api.OK {
					wish.Disk.Kept = inLog(v, e)
				}
				checkHost(t, fmt.Sprintf("set %d, %s", set, say(e)), got, f, wish, want)
			}
		}
	}
}

// W4: a log that is full: the last entry that has room is written.
func TestPutFull(t *testing.T) {
	for v := 1; v <= 2; v++ {
		for _, e := range []api.Entry{freezes(2), adopts(v, some(3)), calls(ask(2, 10, 101, put("c", "x")))} {
			for left := -2; left <= 2; left++ {
				log := idle(v, 2, api.MaxLog-len(inLog(v, e))-left)
				for _, pends := range []int{0, 1, 5000, len(log)} {
					h := up(1, api.Disk{Base: baseOf(v, some(2)), Kept: log[:len(log)-pends], Pend: log[len(log)-pends:]})
					got, f := checkPut(t, h, e)
					if left < 0 {
						checkHost(t, fmt.Sprint("no room: ", left), got, f, h, api.ErrFull)
					} else {
						h.Disk = api.Disk{Base: h.Disk.Base, Kept: log + inLog(v, e)}
						checkHost(t, fmt.Sprint("room: ", left), got, f, h, 0)
					}
				}
			}
		}
	}
}

// W4: the disk in a format, the shards the same, the log in the base.
func TestFormat(t *testing.T) {
	for v := 1; v <= 2; v++ {
		for _, d := range disks(v) {
			l := Shards(up(2, d))
			for u := 1; u <= 2; u++ {
				got, f := checkFormat(t, up(2, d), u)
				checkHost(t, say(d), got, f, up(2, api.Disk{Base: baseOf(u, l...)}), 0)
				checkShards(t, got, l)
			}
			if got, f := checkFormat(t, up(1, d), 2); got != up(1, d) || f != api.ErrVersion {
				t.Errorf("%s, of a binary 1: %s, %d", say(d), say(got), f)
			}
			checkFormat(t, up(1, d), 1)
		}
	}
}

// W4: formats that are none, or above the binary, each binary; the host is as it was.
func TestFormatRefuses(t *testing.T) {
	for v := 1; v <= 2; v++ {
		for _, bin := range []int{-1, 0, 1, 2, 3} {
			h := up(bin, api.Disk{Base: baseOf(v, somes(0, 2)...), Kept: inLog(v, freezes(2)), Pend: inLog(v, drops(0))})
			for _, u := range numbers() {
				got, f := checkFormat(t, h, u)
				if u < 1 || u > 2 {
					checkHost(t, fmt.Sprintf("Format(%s, %d)", say(h), u), got, f, h, api.ErrArg)
				} else if u > bin {
					checkHost(t, fmt.Sprintf("Format(%s, %d)", say(h), u), got, f, h, api.ErrVersion)
				} else {
					checkHost(t, fmt.Sprintf("Format(%s, %d)", say(h), u), got, f, up(bin, api.Disk{Base: baseOf(u, frozen(2))}), 0)
				}
				h.Up = false
				got, f = Format(h, u)
				checkHost(t, fmt.Sprintf("Format(%s, %d)", say(h), u), got, f, h, api.ErrDown)
				h.Up = true
			}
		}
	}
	for d, want := range broken() {
		for u := 1; u <= 2; u++ {
			got, f := Format(up(2, d), u)
			checkHost(t, say(d), got, f, up(2, d), want)
		}
	}
}

// W4: several things wrong with a Format at once, in all sets: the first one is told.
func TestFormatOrder(t *testing.T) {
	for v := 1; v <= 2; v++ {
		fat := baseOf(v, greats(v, api.MaxBase)...)
		for set := range 16 {
			for _, u := range []int{0, 1, 2, 3} {
				h, want := up(2, api.Disk{Base: fat}), api.OK
				if set&8 > 0 {
					h.Disk.Kept, want = inLog(v, adopts(v, some(2))), api.ErrFull // in either format
				} else if u != v {
					h.Disk.Base = baseOf(v, somes(0, 2)...)
				}
				if set&4 > 0 {
					h.Disk.Pend, want = "x", api.ErrForm
				}
				if h.Bin = set & 2; u > h.Bin {
					want = api.ErrVersion
				}
				if u < 1 || u > 2 {
					want = api.ErrArg
				}
				if set&1 > 0 {
					h.Up, want = false, api.ErrDown
				}
				got, f := checkFormat(t, h, u)
				if f != want || want != api.OK && got != h {
					t.Errorf("set %d, Format(%s, %d) = %s, %d; want %d", set, say(h), u, say(got), f, want)
				}
			}
		}
	}
}

// W4, W5: a base that is just not too long is written; one byte more is refused, and the host is as it was. The same shards may have room in one format alone.
func TestBaseFull(t *testing.T) {
	for v := 1; v <= 2; v++ {
		for more := -1; more <= 1; more++ {
			l := greats(v, api.MaxBase+more)
			d := api.Disk{Base: baseOf(v, l...), Kept: inLog(v, freezes(3))}
			l[1].Frozen = true
			want := api.Errno(0)
			if more > 0 {
				want = api.ErrFull
			}
			got, f := checkFormat(t, up(2, d), v)
			begun, g := checkStart(t, down(2, d), 2)
			if f != want || g != want {
				t.Errorf("%d bytes: %d, %d; want %d", len(d.Base), f, g, want)
			}
			if want == api.OK {
				d = api.Disk{Base: baseOf(v, l...)}
			}
			checkHost(t, "Format", got, f, up(2, d), want)
			wish := up(2, d)
			wish.Up = want == api.OK
			checkHost(t, "Start", begun, g, wish, want)
		}
	}
	h := up(2, api.Disk{Base: baseOf(1, greats(1, api.MaxBase)...)})
	if len(baseOf(2, greats(1, api.MaxBase)...)) <= api.MaxBase {
		t.Error("it has room in the format 2")
	}
	got, f := checkFormat(t, h, 2)
	checkHost(t, "Format 2", got, f, h, api.ErrFull)
	got, f = checkFormat(t, h, 1)
	checkHost(t, "Format 1", got, f, h, 0)
}

// W5: nothing is left of what pends; all else is; a host that is not up may be stopped once more.
func TestStop(t *testing.T) {
	for _, bin := range []int{0, 1, 2, 3} {
		for v := 1; v <= 2; v++ {
			for _, d := range disks(v) {
				want := down(bin, api.Disk{Base: d.Base, Kept: d.Kept})
				checkHost(t, say(d), Stop(up(bin, d)), 0, want, 0)
				checkHost(t, say(d), Stop(down(bin, d)), 0, want, 0)
				checkHost(t, say(d), Stop(want), 0, want, 0)
			}
		}
	}
	for d := range broken() {
		checkHost(t, say(d), Stop(up(2, d)), 0, down(2, api.Disk{Base: d.Base, Kept: d.Kept}), 0)
	}
}

// W5: up, with that binary; the shards are the same, in the format that there is, and the log is in the base.
func TestStart(t *testing.T) {
	for was := 0; was <= 3; was++ {
		for v := 1; v <= 2; v++ {
			for _, d := range disks(v) {
				l := Shards(down(was, d))
				for bin := v; bin <= 2; bin++ {
					got, f := checkStart(t, down(was, d), bin)
					checkHost(t, say(d), got, f, up(bin, api.Disk{Base: baseOf(v, l...)}), 0)
					checkShards(t, got, l)
				}
			}
		}
	}
}

// W5: hosts that are up, binaries that are none, disks that Load does not read, and a format above the binary; the host is as it was.
func TestStartRefuses(t *testing.T) {
	for v := 1; v <= 2; v++ {
		for _, d := range disks(v) {
			for _, bin := range numbers() {
				got, f := Start(up(2, d), bin)
				checkHost(t, fmt.Sprint("up, ", bin), got, f, up(2, d), api.ErrUp)
				got, f = checkStart(t, down(2, d), bin)
				if bin < 1 || bin > 2 {
					checkHost(t, fmt.Sprint("binary ", bin), got, f, down(2, d), api.ErrArg)
				} else if bin < v {
					checkHost(t, fmt.Sprint("binary ", bin), got, f, down(2, d), api.ErrVersion)
				}
			}
		}
	}
	for d, want := range broken() {
		for bin := 1; bin <= 2; bin++ {
			got, f := Start(down(2, d), bin)
			checkHost(t, say(d), got, f, down(2, d), want)
		}
	}
}

// W5: several things wrong with a Start at once, in all sets: the first one is told.
func TestStartOrder(t *testing.T) {
	for v := 1; v <= 2; v++ {
		for _, bin := range []int{0, 1, 2, 3} {
			for set := range 8 {
				h, want := down(2, api.Disk{Base: baseOf(v, somes(0, 2)...)}), api.OK
				if set&4 > 0 {
					h.Disk, want = api.Disk{Base: baseOf(v, greats(v, api.MaxBase)...), Kept: inLog(v, adopts(v, some(2)))}, api.ErrFull
				}
				if v > bin {
					want = api.ErrVersion
				}
				if set&2 > 0 {
					h.Disk.Pend, want = "x", api.ErrForm
				}
				if bin < 1 || bin > 2 {
					want = api.ErrArg
				}
				if set&1 > 0 {
					h.Up, want = true, api.ErrUp
				}
				got, f := checkStart(t, h, bin)
				if f != want || want != api.OK && got != h {
					t.Errorf("set %d, Start(%s, %d) = %s, %d; want %d", set, say(h), bin, say(got), f, want)
				}
			}
		}
	}
}

// W4, W5: what pends when all is written anew lasts, too: it stands in the base.
func TestPendingIsRewritten(t *testing.T) {
	for v := 1; v <= 2; v++ {
		d, e := disk.Append(api.Disk{Base: baseOf(v, some(2)), Kept: inLog(v, adopts(v, bare(3)))}, inLog(v, freezes(2)))
		if e != api.OK {
			t.Fatal(e)
		}
		want := api.Disk{Base: baseOf(v, frozen(2), bare(3))}
		got, f := Format(up(2, d), v)
		checkHost(t, "Format", got, f, up(2, want), 0)
		got, f = Start(down(1, d), 2)
		checkHost(t, "Start", got, f, up(2, want), 0)
	}
}
