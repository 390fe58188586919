package journal

import (
	"math"
	"strings"
	"testing"

	"careen/api"
)

// usual is a call whose numbers and texts are all unlike one another.
func usual() api.Call {
	return api.Call{Shard: 2, Epoch: 300, Client: 10, Id: 101, Op: api.Op{Kind: 4, Key: "k", Value: "va", Rev: 5, To: "tto", Life: 6, Note: "note"}}
}

// numberSetters set each number of a call, textSetters each text.
func numberSetters() []func(c *api.Call, n int) {
	return []func(c *api.Call, n int){
		func(c *api.Call, n int) { c.Shard = n },
		func(c *api.Call, n int) { c.Epoch = n },
		func(c *api.Call, n int) { c.Client = n },
		func(c *api.Call, n int) { c.Id = n },
		func(c *api.Call, n int) { c.Op.Kind = n },
		func(c *api.Call, n int) { c.Op.Rev = n },
		func(c *api.Call, n int) { c.Op.Life = n },
	}
}

func textSetters() []func(c *api.Call, s string) {
	return []func(c *api.Call, s string){
		func(c *api.Call, s string) { c.Op.Key = s },
		func(c *api.Call, s string) { c.Op.Value = s },
		func(c *api.Call, s string) { c.Op.To = s },
		func(c *api.Call, s string) { c.Op.Note = s },
	}
}

// checkCall holds Call against O1's words; what it tells is told back.
func checkCall(t *testing.T, c api.Call) {
	t.Helper()
	s, e := Call(c)
	switch {
	case !mayBe(c):
		if s != "" || e != api.ErrArg {
			t.Errorf("Call(%s) = %.100q, %d; want none", say(c), s, e)
		}
	case s != wantCall(c) || e != api.OK:
		t.Errorf("Call(%s) = %.100q, %d; want %.100q", say(c), s, e, wantCall(c))
	default:
		checkOfCall(t, s)
		if back, e := OfCall(s); back != c || e != api.OK {
			t.Errorf("%s comes back as %s, %d", say(c), say(back), e)
		}
	}
}

// checkOfCall holds OfCall against O1's words, and tells whether there was a call.
func checkOfCall(t *testing.T, s string) bool {
	t.Helper()
	want, ok := wantOfCall(s)
	c, e := OfCall(s)
	if c != want || ok && e != api.OK || !ok && e != api.ErrForm {
		t.Errorf("OfCall(%.100q) = %s, %d; want %s, %v", s, say(c), e, say(want), ok)
	}
	return ok
}

// checkNoCall asks that a text is no call's bytes.
func checkNoCall(t *testing.T, s string) {
	t.Helper()
	if c, e := OfCall(s); c != (api.Call{}) || e != api.ErrForm || checkOfCall(t, s) {
		t.Errorf("OfCall(%.100q) = %s, %d; want none", s, say(c), e)
	}
}

// O1: written out.
func TestCall(t *testing.T) {
	for want, c := range map[string]api.Call{
		"\x02\xac\x02\x0a\x65\x04\x05\x06\x01k\x02va\x03tto\x04note":                           usual(),
		"\x00\x00\x00\x00\x00\x00\x00\x00\x00\x00\x00":                                         {},
		"\x07\x01\x01\x01\x02\x00\x00\x01a\x01x\x00\x00":                                       {Shard: 7, Epoch: 1, Client: 1, Id: 1, Op: put("a", "x")},
		"\x80\x80\x80\x80\x80\x80\x80\x10\x00\x00\x00\x00\x00\x00\x00\x02\xff\x00\x00\x01\x80": {Shard: most, Op: api.Op{Value: "\xff\x00", Note: "\x80"}},
	} {
		if s, e := Call(c); s != want || e != api.OK {
			t.Errorf("Call(%s) = %q, %d; want %q", say(c), s, e, want)
		}
		if back, e := OfCall(want); back != c || e != api.OK {
			t.Errorf("OfCall(%q) = %s, %d; want %s", want, say(back), e, say(c))
		}
	}
}

// O1: each number by itself, at its edges.
func TestCallNumbers(t *testing.T) {
	for i, set := range numberSetters() {
		for n, want := range map[int]api.Errno{
			math.MinInt: 1, -most: 1, -128: 1, -1: 1, 0: 0, 1: 0, 127: 0, 128: 0, 16383: 0, 16384: 0,
			most - 1: 0, most: 0, most + 1: 1, 2 * most: 1, 1 << 60: 1, math.MaxInt: 1,
		} {
			for _, c := range []api.Call{{}, usual()} {
				set(&c, n)
				if s, e := Call(c); e != want || (s == "") != (want == 1) {
					t.Errorf("number %d is %d: %q, %d; want %d", i, n, s, e, want)
				}
				checkCall(t, c)
				if n >= 0 { // bytes of a number that may not be, too
					if _, e := OfCall(wantCall(c)); e == api.OK != (want == 0) {
						t.Errorf("number %d is %d: read, %d", i, n, e)
					}
				}
			}
		}
	}
}

// O1: each text by itself, at its edges. Bytes of one that is too long are no call's: Call tells none such.
func TestCallTexts(t *testing.T) {
	for i, set := range textSetters() {
		for n, want := range map[int]api.Errno{0: 0, 1: 0, 127: 0, 128: 0, 999: 0, 1000: 0, 1001: 1, 1002: 1, 1128: 1, 2024: 1, 16384: 1, 100000: 1} {
			for _, c := range []api.Call{{}, usual()} {
				set(&c, long(n))
				if s, e := Call(c); e != want || (s == "") != (want == 1) {
					t.Errorf("text %d has %d bytes: %.100q, %d; want %d", i, n, s, e, want)
				}
				checkCall(t, c)
				if back, e := OfCall(wantCall(c)); e == api.OK != (want == 0) || e == api.OK && back != c {
					t.Errorf("text %d has %d bytes: read, %d", i, n, e)
				}
			}
		}
		for _, s := range []string{"\x00", "\xff\xfe", "é", "日本", "a\nb", "\x80\x00"} {
			c := usual()
			set(&c, s)
			checkCall(t, c)
		}
	}
	all := usual()
	for _, set := range textSetters() {
		set(&all, long(1000))
	}
	checkCall(t, all)
}

// O1: several things wrong at once.
func TestCallWrongTwice(t *testing.T) {
	for _, one := range numberSetters() {
		for _, other := range numberSetters() {
			for _, set := range textSetters() {
				c := usual()
				one(&c, -1)
				other(&c, most+1)
				checkCall(t, c)
				set(&c, long(1001))
				checkCall(t, c)
			}
		}
	}
}

// O1: bytes that are cut off at each place, or have more behind them or ahead.
func TestOfCallCut(t *testing.T) {
	for _, c := range []api.Call{{}, usual(), ask(7, 1000, most, put(long(16), long(200))), {Op: api.Op{Note: long(1000)}}} {
		all := wantCall(c)
		for k := range len(all) {
			checkNoCall(t, all[:k])
			checkOfCall(t, all[k+1:])
		}
		for _, more := range []string{"\x00", "\x01", "\x80", "\xff", "x", all, long(5000)} {
			checkNoCall(t, all+more)
			checkOfCall(t, more+all)
		}
	}
	checkNoCall(t, "")
}

// O1: each byte changed to each other one, left out, doubled; another one put in.
func TestOfCallChanged(t *testing.T) {
	there := 0
	for _, c := range []api.Call{{}, usual(), ask(7, 1000, most, mark("abc"))} {
		all := wantCall(c)
		try := func(s string) {
			if checkOfCall(t, s) {
				there++
			}
		}
		for k := range len(all) {
			for b := range 256 {
				try(all[:k] + string([]byte{byte(b)}) + all[k+1:])
				try(all[:k] + string([]byte{byte(b)}) + all[k:])
			}
			try(all[:k] + all[k+1:])
			try(all[:k] + all[k:k+1] + all[k:])
		}
	}
	if there < 1000 {
		t.Errorf("there was a call %d times", there)
	}
}

// callParts are the eleven numbers of a call's bytes, and the texts behind the last four of them.
func callParts(c api.Call) (parts []string, behind []string) {
	for _, n := range []int{c.Shard, c.Epoch, c.Client, c.Id, c.Op.Kind, c.Op.Rev, c.Op.Life, len(c.Op.Key), len(c.Op.Value), len(c.Op.To), len(c.Op.Note)} {
		parts = append(parts, num(n))
	}
	return parts, []string{"", "", "", "", "", "", "", c.Op.Key, c.Op.Value, c.Op.To, c.Op.Note}
}

// O1: numbers that are longer than they need be, and lengths that are greater than what is left.
func TestOfCallNumbers(t *testing.T) {
	with := func(i int, number string) string {
		parts, behind := callParts(usual())
		parts[i] = number
		var b strings.Builder
		for k, p := range parts {
			b.WriteString(p + behind[k])
		}
		return b.String()
	}
	parts, behind := callParts(usual())
	for i, p := range parts {
		if with(i, p) != wantCall(usual()) {
			t.Fatal("the parts are not the call's")
		}
		for _, more := range []string{"\x00", "\x80\x00", "\x80\x80\x00", "\x80\x80\x80\x80\x80\x00"} {
			checkNoCall(t, with(i, p[:len(p)-1]+string([]byte{p[len(p)-1] | 128})+more))
		}
		for _, none := range []string{"", "\x80\x00", "\x80", "\x81\x80\x80\x80\x80\x80\x80\x10", "\xff\xff\xff\xff\xff\xff\xff\x7f", "\x80\x80\x80\x80\x80\x80\x80\x80\x01", num(math.MaxInt), num(1<<60) + "\x00"} {
			if none != "" {
				checkNoCall(t, with(i, none))
			} else {
				checkOfCall(t, with(i, none))
			}
		}
		if i < 7 {
			continue
		}
		left := len(with(i, "")) - strings.LastIndex(with(i, "#"), "#")
		for _, n := range []int{left + 1, left + 2, 127, 128, 1000, 1001, 1 << 31, 1 << 32, 1<<32 + len(behind[i]), most, most + 1, 1 << 62, math.MaxInt} {
			checkNoCall(t, with(i, num(n)))
		}
		for n := range left + 1 {
			checkOfCall(t, with(i, num(n)))
		}
	}
}

// O1: calls of all kinds, there and back.
func TestCallThereAndBack(t *testing.T) {
	var seed uint64
	for n := range 3000 {
		size := func() string { return long(next(&seed) % []int{2, 20, 200, 1001, 1010}[n%5]) }
		number := func() int { return next(&seed) % 300 << (next(&seed) % 46) }
		c := api.Call{Shard: number(), Epoch: number(), Client: number(), Id: number()}
		c.Op = api.Op{Kind: number(), Key: size(), Value: size(), Rev: number(), To: size(), Life: number(), Note: size()}
		checkCall(t, c)
	}
}

func FuzzOfCall(f *testing.F) {
	f.Add("")
	f.Add(wantCall(usual()))
	f.Add(wantCall(api.Call{}))
	f.Add(wantCall(api.Call{Op: api.Op{To: long(1001)}}))
	f.Add(wantCall(ask(7, 1000, most, mark("abc"))) + "\x00")
	f.Fuzz(func(t *testing.T, s string) {
		if checkOfCall(t, s) {
			c, _ := OfCall(s)
			checkCall(t, c)
		}
		checkApplied(t, s)
	})
}

// checkApplied holds a text as the Data of each entry against O2's words.
func checkApplied(t *testing.T, s string) {
	t.Helper()
	for v := 1; v <= 2; v++ {
		for kind := range 7 {
			for _, id := range []int{2, 3} {
				checkWords(t, v, somes(0, 2), api.Entry{Kind: kind, Shard: id, Data: s})
			}
		}
	}
}
