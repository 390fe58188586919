package record

import (
	"slices"
	"strings"
	"testing"

	"careen/api"
	"careen/field"
	"careen/varint"
)

// pair is a record, and the bytes that it has by a version.
type pair struct {
	version int
	record  api.Record
	bytes   string
}

// both are the pairs of a record that has the same bytes by either version.
func both(r api.Record, s string) []pair {
	return []pair{{1, r, s}, {2, r, s}}
}

// pairs are written out, or, where they are long, built of what is written out.
func pairs() []pair {
	key, value, note := strings.Repeat("k", 16), strings.Repeat("v", 200), strings.Repeat("n", 40)
	eight := fields("\x06", "\x07", "\x08", "\x09", "\x0a", "\x0b", "\x0c", "\x0d")
	l := slices.Concat(
		both(api.Record{Key: "a"}, "\x01\x01a"),
		both(api.Record{Key: "\x00"}, "\x01\x01\x00"),
		both(api.Record{Key: key}, "\x01\x10"+key),
		both(api.Record{Key: "a", Value: "b", Rev: 1}, "\x01\x01a\x02\x01b\x03\x01\x01"),
		both(api.Record{Key: "ab", Value: "\xff\x00"}, "\x01\x02ab\x02\x02\xff\x00"),
		both(api.Record{Key: "a", Value: value}, "\x01\x01a\x02\xc8\x01"+value),
		both(api.Record{Key: "a", Rev: 127}, "\x01\x01a\x03\x01\x7f"),
		both(api.Record{Key: "a", Rev: 128}, "\x01\x01a\x03\x02\x80\x01"),
		both(api.Record{Key: "a", Rev: 1<<53 - 1}, "\x01\x01a\x03\x08\xff\xff\xff\xff\xff\xff\xff\x0f"),
		both(api.Record{Key: "a", Rev: 1 << 53}, "\x01\x01a\x03\x08\x80\x80\x80\x80\x80\x80\x80\x10"),
		both(api.Record{Key: "a", Extra: fields("\x06")}, "\x01\x01a\x06\x00"),
		both(api.Record{Key: "a", Value: "b", Rev: 2, Extra: fields("\x09xy", "\x7fz")}, "\x01\x01a\x02\x01b\x03\x01\x02\x09\x02xy\x7f\x01z"),
		both(api.Record{Key: "a", Extra: []api.Field{{Tag: 1000000, Data: "x"}}}, "\x01\x01a\xc0\x84\x3d\x01x"),
		both(api.Record{Key: "a", Extra: eight}, "\x01\x01a\x06\x00\x07\x00\x08\x00\x09\x00\x0a\x00\x0b\x00\x0c\x00\x0d\x00"),
	)
	l = append(l, []pair{
		{1, api.Record{Key: "a", Extra: fields("\x04\x07")}, "\x01\x01a\x04\x01\x07"},
		{2, api.Record{Key: "a", Life: 7}, "\x01\x01a\x04\x01\x07"},
		{1, api.Record{Key: "a", Extra: fields("\x05hi")}, "\x01\x01a\x05\x02hi"},
		{2, api.Record{Key: "a", Note: "hi"}, "\x01\x01a\x05\x02hi"},
		{1, api.Record{Key: "a", Rev: 3, Extra: fields("\x04\x80\x01", "\x05hi", "\x06", "\x09z")}, "\x01\x01a\x03\x01\x03\x04\x02\x80\x01\x05\x02hi\x06\x00\x09\x01z"},
		{2, api.Record{Key: "a", Rev: 3, Life: 128, Note: "hi", Extra: fields("\x06", "\x09z")}, "\x01\x01a\x03\x01\x03\x04\x02\x80\x01\x05\x02hi\x06\x00\x09\x01z"},
		{2, api.Record{Key: "a", Life: 1 << 53, Note: note}, "\x01\x01a\x04\x08\x80\x80\x80\x80\x80\x80\x80\x10\x05\x28" + note},
		{1, api.Record{Key: "a", Extra: fields("\x04", "\x05")}, "\x01\x01a\x04\x00\x05\x00"}, // what version 2 refuses is carried by version 1
		{1, api.Record{Key: "a", Extra: fields("\x04\x00", "\x05"+note+"n")}, "\x01\x01a\x04\x01\x00\x05\x29" + note + "n"},
		{1, api.Record{Key: "a", Extra: fields("\x04\x01\x01")}, "\x01\x01a\x04\x02\x01\x01"},
		{1, api.Record{Key: "a", Extra: append(fields("\x04x", "\x05y"), eight...)}, "\x01\x01a\x04\x01x\x05\x01y\x06\x00\x07\x00\x08\x00\x09\x00\x0a\x00\x0b\x00\x0c\x00\x0d\x00"},
		{2, api.Record{Key: "a", Life: 1, Note: "y", Extra: eight}, "\x01\x01a\x04\x01\x01\x05\x01y\x06\x00\x07\x00\x08\x00\x09\x00\x0a\x00\x0b\x00\x0c\x00\x0d\x00"},
	}...)
	return append(l, longest(10000))
}

// fields are told by texts: a byte that is the tag, and Data.
func fields(texts ...string) []api.Field {
	var l []api.Field
	for _, s := range texts {
		l = append(l, api.Field{Tag: int(s[0]), Data: s[1:]})
	}
	return l
}

// rising are n fields without Data, from a tag on.
func rising(tag, n int) []api.Field {
	var l []api.Field
	for i := range n {
		l = append(l, api.Field{Tag: tag + i})
	}
	return l
}

// longest is a record of version 1 with ten carried fields, the tags 4 and 5 among them, of n bytes in all, n from some 9200 to 10033.
func longest(n int) pair {
	p := pair{version: 1, record: api.Record{Key: "a"}, bytes: "\x01\x01a"}
	for tag := 4; tag < 13; tag++ {
		data := strings.Repeat("x", 1000)
		p.record.Extra = append(p.record.Extra, api.Field{Tag: tag, Data: data})
		p.bytes += string([]byte{byte(tag)}) + "\xe8\x07" + data
	}
	last := n - len(p.bytes) - 3
	p.record.Extra = append(p.record.Extra, api.Field{Tag: 13, Data: strings.Repeat("z", last)})
	p.bytes += "\x0d" + string([]byte{byte(last%128 + 128), byte(last / 128)}) + strings.Repeat("z", last)
	return p
}

// wantRight is promise C1 by its words.
func wantRight(v int, r api.Record) bool {
	if v != 1 && v != 2 || len(r.Key) < 1 || len(r.Key) > 16 || len(r.Value) > 200 || r.Rev < 0 || r.Rev > 1<<53 {
		return false
	}
	if v == 1 && (r.Life != 0 || r.Note != "") {
		return false
	}
	if v == 2 && (r.Life < 0 || r.Life > 1<<53 || len(r.Note) > 40) {
		return false
	}
	others := 0
	for _, f := range r.Extra {
		if f.Tag <= 3 || v == 2 && f.Tag <= 5 {
			return false
		}
		if f.Tag != 4 && f.Tag != 5 {
			others++
		}
	}
	return field.Right(r.Extra) && others <= 8
}

// wantEncode is promise C2 by its words.
func wantEncode(v int, r api.Record) (string, api.Errno) {
	if !wantRight(v, r) {
		return "", api.ErrArg
	}
	l := []api.Field{{Tag: 1, Data: r.Key}}
	if r.Value != "" {
		l = append(l, api.Field{Tag: 2, Data: r.Value})
	}
	if r.Rev != 0 {
		s, _ := varint.Put(r.Rev)
		l = append(l, api.Field{Tag: 3, Data: s})
	}
	if r.Life != 0 {
		s, _ := varint.Put(r.Life)
		l = append(l, api.Field{Tag: 4, Data: s})
	}
	if r.Note != "" {
		l = append(l, api.Field{Tag: 5, Data: r.Note})
	}
	return field.Encode(append(l, r.Extra...))
}

// wantNumber is a known number by the words of C3.
func wantNumber(data string) (int, bool) {
	n, k, e := varint.Take(data)
	return n, e == api.OK && k == len(data) && n != 0
}

// wantDecode is promise C3 by its words, in their order.
func wantDecode(v int, s string) (api.Record, api.Errno) {
	var r, none api.Record
	if v != 1 && v != 2 {
		return none, api.ErrArg
	}
	l, e := field.Decode(s)
	if e != api.OK {
		return none, e
	}
	if _, ok := field.Find(l, 1); !ok {
		return none, api.ErrKey
	}
	others := 0
	for _, f := range l {
		ok := true
		switch {
		case f.Tag == 1:
			r.Key, ok = f.Data, len(f.Data) >= 1 && len(f.Data) <= 16
		case f.Tag == 2:
			r.Value, ok = f.Data, len(f.Data) >= 1 && len(f.Data) <= 200
		case f.Tag == 3:
			r.Rev, ok = wantNumber(f.Data)
		case v == 2 && f.Tag == 4:
			r.Life, ok = wantNumber(f.Data)
		case v == 2 && f.Tag == 5:
			r.Note, ok = f.Data, len(f.Data) >= 1 && len(f.Data) <= 40
		default:
			r.Extra = append(r.Extra, f)
			if f.Tag != 4 && f.Tag != 5 {
				others++
			}
		}
		if !ok || others > 8 {
			return none, api.ErrKnown
		}
	}
	return r, api.OK
}

// equal is what Same is to tell, without its help.
func equal(a, b api.Record) bool {
	if a.Key != b.Key || a.Value != b.Value || a.Rev != b.Rev || a.Life != b.Life || a.Note != b.Note || len(a.Extra) != len(b.Extra) {
		return false
	}
	for i := range a.Extra {
		if a.Extra[i] != b.Extra[i] {
			return false
		}
	}
	return true
}

// short is what stands in a test's message of a text.
func short(s string) string {
	if len(s) > 60 {
		return s[:60] + ".."
	}
	return s
}

func checkRight(t *testing.T, v int, r api.Record, want bool) {
	t.Helper()
	if Right(v, r) != want {
		t.Errorf("Right(%d, Key %q, %d bytes of Value, Rev %d, Life %d, Note %q, %d of Extra) is not %v", v, short(r.Key), len(r.Value), r.Rev, r.Life, short(r.Note), len(r.Extra), want)
	}
}

func checkEncode(t *testing.T, v int, r api.Record, want string, wantE api.Errno) {
	t.Helper()
	if s, e := Encode(v, r); s != want || e != wantE {
		t.Errorf("Encode(%d, Key %q) = %q, %d; want %q, %d", v, short(r.Key), short(s), e, short(want), wantE)
	}
}

func checkDecode(t *testing.T, v int, s string, want api.Record, wantE api.Errno) {
	t.Helper()
	if r, e := Decode(v, s); !equal(r, want) || e != wantE {
		t.Errorf("Decode(%d, %q) = Key %q, %d of Extra, %d; want %q, %d, %d", v, short(s), short(r.Key), len(r.Extra), e, short(want.Key), len(want.Extra), wantE)
	}
}

// checkErr asks that bytes are refused, and nothing else is answered.
func checkErr(t *testing.T, v int, s string, e api.Errno) {
	t.Helper()
	checkDecode(t, v, s, api.Record{}, e)
}

// versions are those that there are, and others.
func versions() []int {
	return []int{1, 2, 0, 3, -1, 1<<63 - 1, -1 << 63, 1<<32 + 1, 257}
}

// C1: what is written out is right by its version; by no others that are none.
func TestRight(t *testing.T) {
	for _, p := range pairs() {
		checkRight(t, p.version, p.record, true)
		for _, v := range versions()[2:] {
			checkRight(t, v, p.record, false)
		}
	}
}

// C1: each field at its edges, alone; what is right by version 1, and by version 2.
func TestRightEdges(t *testing.T) {
	text := func(n int) string { return strings.Repeat("x", n) }
	const most = 1 << 53
	cases := []struct {
		record   api.Record
		one, two bool
	}{
		{api.Record{}, false, false},
		{api.Record{Value: "b", Rev: 1}, false, false},
		{api.Record{Key: text(1)}, true, true},
		{api.Record{Key: text(16)}, true, true},
		{api.Record{Key: text(17)}, false, false},
		{api.Record{Key: text(300)}, false, false},
		{api.Record{Key: "a", Value: text(1)}, true, true},
		{api.Record{Key: "a", Value: text(200)}, true, true},
		{api.Record{Key: "a", Value: text(201)}, false, false},
		{api.Record{Key: "a", Value: text(1000)}, false, false},
		{api.Record{Key: "a", Rev: 1}, true, true},
		{api.Record{Key: "a", Rev: most - 1}, true, true},
		{api.Record{Key: "a", Rev: most}, true, true},
		{api.Record{Key: "a", Rev: most + 1}, false, false},
		{api.Record{Key: "a", Rev: 1<<63 - 1}, false, false},
		{api.Record{Key: "a", Rev: -1}, false, false},
		{api.Record{Key: "a", Rev: -1 << 63}, false, false},
		{api.Record{Key: "a", Life: 1}, false, true},
		{api.Record{Key: "a", Life: most}, false, true},
		{api.Record{Key: "a", Life: most + 1}, false, false},
		{api.Record{Key: "a", Life: 1<<63 - 1}, false, false},
		{api.Record{Key: "a", Life: -1}, false, false},
		{api.Record{Key: "a", Life: -1 << 63}, false, false},
		{api.Record{Key: "a", Note: text(1)}, false, true},
		{api.Record{Key: "a", Note: text(40)}, false, true},
		{api.Record{Key: "a", Note: text(41)}, false, false},
		{api.Record{Key: "a", Note: text(200)}, false, false},
		{api.Record{Key: "a", Life: 1, Note: "n"}, false, true},
	}
	for _, c := range cases {
		checkRight(t, 1, c.record, c.one)
		checkRight(t, 2, c.record, c.two)
	}
}

// C1: what may be carried, and what may not.
func TestRightExtra(t *testing.T) {
	long := strings.Repeat("x", 1000)
	cases := []struct {
		extra    []api.Field
		one, two bool
	}{
		{[]api.Field{}, true, true},
		{fields("\x01a"), false, false}, // known to both
		{fields("\x02"), false, false},
		{fields("\x03\x01"), false, false},
		{fields("\x03", "\x04"), false, false},
		{fields("\x04"), true, false}, // known to version 2 alone
		{fields("\x05"), true, false},
		{fields("\x04\x07", "\x05n"), true, false},
		{fields("\x04", "\x06"), true, false},
		{fields("\x05", "\x06"), true, false},
		{fields("\x06"), true, true},
		{fields("\x06", "\x07x", "\x08"), true, true},
		{[]api.Field{{Tag: 1000000, Data: long}}, true, true},
		{rising(6, 8), true, true}, // how many
		{rising(999993, 8), true, true},
		{rising(6, 9), false, false},
		{rising(6, 10), false, false},
		{rising(6, 64), false, false},
		{rising(6, 65), false, false},
		{append(fields("\x04"), rising(6, 8)...), true, false},
		{append(fields("\x05"), rising(6, 8)...), true, false},
		{rising(4, 10), true, false},
		{rising(4, 11), false, false},
		{append(fields("\x04"), rising(6, 9)...), false, false},
		{append(fields("\x05"), rising(6, 9)...), false, false},
		{fields("\x00"), false, false}, // no fields
		{[]api.Field{{Tag: -1}}, false, false},
		{[]api.Field{{Tag: 1000001}}, false, false},
		{[]api.Field{{Tag: 6}, {Tag: 1000001}}, false, false},
		{fields("\x06", "\x06"), false, false},
		{fields("\x07", "\x06"), false, false},
		{fields("\x05", "\x04"), false, false},
		{fields("\x04", "\x04"), false, false},
		{fields("\x06" + long), true, true},
		{fields("\x06" + long + "x"), false, false},
		{fields("\x04" + long), true, false},
		{fields("\x04" + long + "x"), false, false},
		{make([]api.Field, 100000), false, false},
	}
	for i, c := range cases {
		r := api.Record{Key: "a", Extra: c.extra}
		if Right(1, r) != c.one || Right(2, r) != c.two {
			t.Errorf("Extra %d: right are %v, %v", i, Right(1, r), Right(2, r))
		}
	}
}

// crossed are records of all fields' edges, with one another.
func crossed() []api.Record {
	texts := func(sizes ...int) (l []string) {
		for _, n := range sizes {
			l = append(l, strings.Repeat("x", n))
		}
		return l
	}
	numbers := []int{0, 1, 128, 1 << 53, 1<<53 + 1, -1}
	extras := [][]api.Field{nil, fields("\x03x"), fields("\x04\x07"), fields("\x05n"), fields("\x06"), rising(6, 8), rising(6, 9), rising(4, 10), fields("\x07", "\x06")}
	var l []api.Record
	for _, key := range texts(0, 1, 16, 17) {
		for _, value := range texts(0, 1, 200, 201) {
			for _, rev := range numbers {
				for _, life := range numbers {
					for _, note := range texts(0, 1, 40, 41) {
						for _, extra := range extras {
							l = append(l, api.Record{Key: key, Value: value, Rev: rev, Life: life, Note: note, Extra: extra})
						}
					}
				}
			}
		}
	}
	return l
}

// checkRecord holds Right, Encode and Decode against the words, and against C5.
func checkRecord(t *testing.T, v int, r api.Record) {
	t.Helper()
	checkRight(t, v, r, wantRight(v, r))
	s, e := wantEncode(v, r)
	checkEncode(t, v, r, s, e)
	if e == api.OK {
		checkDecode(t, v, s, r, api.OK)
	}
}

// C1, C2, C5: all edges with one another, by all versions.
func TestCrossed(t *testing.T) {
	for _, r := range crossed() {
		for _, v := range versions()[:4] {
			checkRecord(t, v, r)
		}
	}
}

// C2: records' bytes, written out.
func TestEncode(t *testing.T) {
	for _, p := range pairs() {
		checkEncode(t, p.version, p.record, p.bytes, api.OK)
	}
	checkEncode(t, 1, api.Record{Key: "a", Extra: []api.Field{}}, "\x01\x01a", api.OK)
}

// C2: what is not right by a version is refused, and nothing else is answered.
func TestEncodeNotRight(t *testing.T) {
	for _, r := range []api.Record{
		{},
		{Key: strings.Repeat("k", 17)},
		{Key: "a", Value: strings.Repeat("v", 201)},
		{Key: "a", Rev: -1},
		{Key: "a", Rev: 1<<53 + 1},
		{Key: "a", Life: -1},
		{Key: "a", Life: 1<<53 + 1},
		{Key: "a", Note: strings.Repeat("n", 41)},
		{Key: "a", Extra: fields("\x03\x01")},
		{Key: "a", Extra: fields("\x00")},
		{Key: "a", Extra: fields("\x07", "\x06")},
		{Key: "a", Extra: rising(6, 9)},
	} {
		checkEncode(t, 1, r, "", api.ErrArg)
		checkEncode(t, 2, r, "", api.ErrArg)
	}
	checkEncode(t, 1, api.Record{Key: "a", Life: 1}, "", api.ErrArg)
	checkEncode(t, 1, api.Record{Key: "a", Note: "n"}, "", api.ErrArg)
	checkEncode(t, 2, api.Record{Key: "a", Extra: fields("\x04\x07")}, "", api.ErrArg)
	checkEncode(t, 2, api.Record{Key: "a", Extra: fields("\x05n")}, "", api.ErrArg)
	for _, v := range versions()[2:] {
		checkEncode(t, v, api.Record{Key: "a"}, "", api.ErrArg)
	}
}

// C2, C3: 10000 bytes may be, one more may not; that a record is not right is told ahead of its being too long.
func TestLong(t *testing.T) {
	for n := 9980; n < 10030; n++ {
		p := longest(n)
		if len(p.bytes) != n {
			t.Fatalf("%d bytes, not %d", len(p.bytes), n)
		}
		checkRight(t, 1, p.record, true)
		if n <= 10000 {
			checkEncode(t, 1, p.record, p.bytes, api.OK)
			checkDecode(t, 1, p.bytes, p.record, api.OK)
			checkErr(t, 2, p.bytes, api.ErrKnown)
		} else {
			checkEncode(t, 1, p.record, "", api.ErrLong)
			checkErr(t, 1, p.bytes, api.ErrLong)
			checkErr(t, 2, p.bytes, api.ErrLong)
		}
		checkEncode(t, 2, p.record, "", api.ErrArg)
		p.record.Key = ""
		checkEncode(t, 1, p.record, "", api.ErrArg)
	}
}

// C3: the records of bytes, written out.
func TestDecode(t *testing.T) {
	for _, p := range pairs() {
		checkDecode(t, p.version, p.bytes, p.record, api.OK)
	}
}

// C3: a version that is none is told ahead of all that is wrong with the bytes.
func TestDecodeVersion(t *testing.T) {
	for _, s := range []string{"\x01\x01a", "", "\x01", "\x02\x00", "\x01\x00", "\x00\x00", strings.Repeat("x", 10001)} {
		for _, v := range versions()[2:] {
			checkErr(t, v, s, api.ErrArg)
		}
	}
}

// C3: each error that both versions tell, alone.
func TestDecodeErrors(t *testing.T) {
	text := func(n int) string { return strings.Repeat("x", n) }
	cases := []struct {
		bytes string
		e     api.Errno
	}{
		{"\x01", api.ErrCut}, // of the layer below
		{"\x01\x01", api.ErrCut},
		{"\x80", api.ErrCut},
		{"\x01\x01a\x02", api.ErrCut},
		{"\x01\x01a\x06\x02x", api.ErrCut},
		{"\x81\x00", api.ErrForm},
		{"\x01\x81\x00", api.ErrForm},
		{"\x01\x01a\x06\xe9\x07" + text(1001), api.ErrForm},
		{"\x00\x00", api.ErrTags},
		{"\x01\x01a\x01\x01a", api.ErrTags},
		{"\x02\x01b\x01\x01a", api.ErrTags},
		{"\x01\x01a\x07\x00\x06\x00", api.ErrTags},
		{text(10001), api.ErrLong},
		{"", api.ErrKey}, // no tag 1
		{"\x02\x01b", api.ErrKey},
		{"\x03\x01\x01", api.ErrKey},
		{"\x04\x01\x01", api.ErrKey},
		{"\x06\x01a", api.ErrKey},
		{"\x01\x00", api.ErrKnown}, // a Key that may not be
		{"\x01\x11" + text(17), api.ErrKnown},
		{"\x01\xe8\x07" + text(1000), api.ErrKnown},
		{"\x01\x00\x02\x01b", api.ErrKnown},
		{"\x01\x01a\x02\x00", api.ErrKnown}, // a Value
		{"\x01\x01a\x02\xc9\x01" + text(201), api.ErrKnown},
		{"\x01\x01a\x02\xe8\x07" + text(1000), api.ErrKnown},
		{"\x01\x01a\x02\x00\x03\x01\x01", api.ErrKnown},
	}
	for _, c := range cases {
		checkErr(t, 1, c.bytes, c.e)
		checkErr(t, 2, c.bytes, c.e)
	}
}

// wrongNumbers are Data that is no number above 0.
func wrongNumbers() []string {
	return []string{
		"", "\x00", // empty, that of 0
		"\x80", "\xff\xff", "\x80\x80\x80\x80\x80\x80\x80", // cut off
		"\x80\x00", "\x81\x80\x00", "\x81\x80\x80\x80\x80\x80\x80\x10", "\xff\xff\xff\xff\xff\xff\xff\xff", "\x80\x80\x80\x80\x80\x80\x80\x80\x01", // no number's
		"\x01\x01", "\x01\x00", "\x00\x00", "\x00\x01", "\x80\x01\x80", "\x80\x80\x80\x80\x80\x80\x80\x10\x00", "ab", strings.Repeat("\x01", 1000), // more than one's
	}
}

// C3: a Rev that may not be is refused by both versions, a Life and a Note by version 2; version 1 carries these.
func TestDecodeKnown(t *testing.T) {
	for _, data := range wrongNumbers() {
		n, _ := varint.Put(len(data))
		checkErr(t, 1, "\x01\x01a\x03"+n+data, api.ErrKnown)
		checkErr(t, 2, "\x01\x01a\x03"+n+data, api.ErrKnown)
		checkErr(t, 2, "\x01\x01a\x04"+n+data, api.ErrKnown)
		checkErr(t, 2, "\x01\x01a\x03\x01\x05\x04"+n+data+"\x05\x01n", api.ErrKnown)
		checkDecode(t, 1, "\x01\x01a\x04"+n+data, api.Record{Key: "a", Extra: []api.Field{{Tag: 4, Data: data}}}, api.OK)
	}
	for _, size := range []int{0, 41, 127, 1000} {
		data := strings.Repeat("n", size)
		n, _ := varint.Put(size)
		checkErr(t, 2, "\x01\x01a\x05"+n+data, api.ErrKnown)
		checkErr(t, 2, "\x01\x01a\x05"+n+data+"\x06\x00", api.ErrKnown)
		checkDecode(t, 1, "\x01\x01a\x05"+n+data, api.Record{Key: "a", Extra: []api.Field{{Tag: 5, Data: data}}}, api.OK)
	}
}

// C3: 8 carried fields of other tags than 4 and 5 may be, one more may not.
func TestDecodeManyCarried(t *testing.T) {
	const eight = "\x06\x00\x07\x00\x08\x00\x09\x00\x0a\x00\x0b\x00\x0c\x00\x0d\x00"
	for _, ahead := range []string{"", "\x04\x01\x01", "\x05\x01n", "\x04\x01\x01\x05\x01n"} {
		for _, v := range []int{1, 2} {
			s := "\x01\x01a" + ahead + eight
			want, _ := wantDecode(v, s)
			if want.Key != "a" {
				t.Fatalf("%q is refused", s)
			}
			checkDecode(t, v, s, want, api.OK)
			checkErr(t, v, s+"\x0e\x00", api.ErrKnown)
			checkErr(t, v, s+"\x0e\x01x\x0f\x00", api.ErrKnown)
			checkErr(t, v, s+"\xc0\x84\x3d\x00", api.ErrKnown)
		}
	}
	for _, v := range []int{1, 2} {
		s, _ := field.Encode(append(fields("\x01a"), rising(6, 63)...))
		checkErr(t, v, s, api.ErrKnown)
		s, _ = field.Encode(rising(6, 64))
		checkErr(t, v, s, api.ErrKey)
	}
}

// C3: of several errors it is the one that is named first.
func TestDecodeFirstError(t *testing.T) {
	const nine = "\x06\x00\x07\x00\x08\x00\x09\x00\x0a\x00\x0b\x00\x0c\x00\x0d\x00\x0e\x00"
	cases := []struct {
		bytes string
		e     api.Errno
	}{
		{"\x02\x00", api.ErrKey}, // no Key ahead of what is known
		{"\x03\x01\x00", api.ErrKey},
		{"\x04\x00\x05\x00", api.ErrKey},
		{nine, api.ErrKey},
		{"\x02\x00\x03", api.ErrCut}, // the layer below ahead of no Key
		{"\x02\x00\x02\x00", api.ErrTags},
		{"\x06\x81\x00", api.ErrForm},
		{"\x01\x00\x02", api.ErrCut}, // and of what is known
		{"\x01\x01a\x02\x00\x02\x00", api.ErrTags},
		{"\x01\x01a\x03\x01\x00\x81\x00", api.ErrForm},
		{"\x01\x01a" + nine + "\x0f", api.ErrCut},
		{"\x01\x01a" + nine + "\x0e\x00", api.ErrTags},
		{"\x01\x00" + strings.Repeat("x", 10000), api.ErrLong},
	}
	for _, c := range cases {
		checkErr(t, 1, c.bytes, c.e)
		checkErr(t, 2, c.bytes, c.e)
	}
}

// checkWords holds Decode against the words, and Encode and Right against C5.
func checkWords(t *testing.T, v int, s string) {
	t.Helper()
	r, e := wantDecode(v, s)
	checkDecode(t, v, s, r, e)
	if e == api.OK {
		checkRight(t, v, r, true)
		checkEncode(t, v, r, s, api.OK)
	}
}

// C3, C5: all texts of at most six of the signs at which the answer turns, behind a Key, and alone.
func TestDecodeByTheWords(t *testing.T) {
	texts := []string{""}
	for range 7 {
		var longer []string
		for _, s := range texts {
			for _, v := range []int{1, 2} {
				checkWords(t, v, s)
				checkWords(t, v, "\x01\x01a"+s)
			}
			for _, c := range []string{"\x00", "\x01", "\x02", "\x03", "\x04", "\x05", "\x06"} {
				longer = append(longer, s+c)
			}
		}
		texts = longer
	}
}

// C3, C5: each byte of right texts, changed to each other one, or cut off.
func TestDecodeChanged(t *testing.T) {
	for _, p := range pairs() {
		if len(p.bytes) > 100 {
			continue
		}
		for i := range p.bytes {
			for _, v := range []int{1, 2} {
				checkWords(t, v, p.bytes[:i])
				for c := range 256 {
					b := []byte(p.bytes)
					b[i] = byte(c)
					checkWords(t, v, string(b))
				}
			}
		}
	}
}

// C4: all fields are held against each other, Extra in order.
func TestSame(t *testing.T) {
	full := api.Record{Key: "a", Value: "b", Rev: 1, Life: 2, Note: "n", Extra: fields("\x06x", "\x07y")}
	change := func(f func(r *api.Record)) api.Record {
		r := full
		r.Extra = slices.Clone(full.Extra)
		f(&r)
		return r
	}
	others := []api.Record{
		{},
		change(func(r *api.Record) { r.Key = "" }),
		change(func(r *api.Record) { r.Key = "b" }),
		change(func(r *api.Record) { r.Key = "aa" }),
		change(func(r *api.Record) { r.Value = "" }),
		change(func(r *api.Record) { r.Value = "c" }),
		change(func(r *api.Record) { r.Rev = 0 }),
		change(func(r *api.Record) { r.Rev = 1 + 1<<32 }),
		change(func(r *api.Record) { r.Life = 0 }),
		change(func(r *api.Record) { r.Life = -2 }),
		change(func(r *api.Record) { r.Note = "" }),
		change(func(r *api.Record) { r.Note = "N" }),
		change(func(r *api.Record) { r.Rev, r.Life = r.Life, r.Rev }),
		change(func(r *api.Record) { r.Value, r.Note = r.Note, r.Value }),
		change(func(r *api.Record) { r.Extra = nil }),
		change(func(r *api.Record) { r.Extra = r.Extra[:1] }),
		change(func(r *api.Record) { r.Extra = r.Extra[1:] }),
		change(func(r *api.Record) { r.Extra = append(r.Extra, api.Field{Tag: 8}) }),
		change(func(r *api.Record) { r.Extra = append(r.Extra, api.Field{}) }),
		change(func(r *api.Record) { slices.Reverse(r.Extra) }),
		change(func(r *api.Record) { r.Extra[0].Tag = 5 }),
		change(func(r *api.Record) { r.Extra[1].Tag = 8 }),
		change(func(r *api.Record) { r.Extra[0].Data = "" }),
		change(func(r *api.Record) { r.Extra[1].Data = "z" }),
	}
	if !Same(full, full) || !Same(full, change(func(*api.Record) {})) {
		t.Error("a record is not the same as itself")
	}
	for i, r := range others {
		if Same(full, r) || Same(r, full) {
			t.Errorf("record %d is the same", i)
		}
		for j, q := range others {
			if Same(r, q) != (i == j) {
				t.Errorf("records %d and %d: Same is %v", i, j, i != j)
			}
		}
	}
	if !Same(api.Record{Extra: []api.Field{}}, api.Record{}) || !Same(api.Record{}, api.Record{Extra: []api.Field{}}) {
		t.Error("no Extra is not the same as none")
	}
}

// C4: records that are not right are held against each other, too.
func TestSameNotRight(t *testing.T) {
	a := api.Record{Key: strings.Repeat("k", 99), Rev: -1, Life: 1<<63 - 1, Extra: fields("\x07", "\x01a", "\x07", "\x00")}
	b := a
	b.Extra = slices.Clone(a.Extra)
	if !Same(a, b) {
		t.Error("two that are not right are not the same")
	}
	b.Extra[1].Data = "b"
	if Same(a, b) {
		t.Error("two that differ are the same")
	}
}

// C5: Decode undoes Encode, and Encode Decode, by either version.
func TestThereAndBack(t *testing.T) {
	for _, p := range pairs() {
		s, _ := Encode(p.version, p.record)
		r, e := Decode(p.version, s)
		if e != api.OK || !Same(r, p.record) {
			t.Errorf("%q, decoded, is another record", short(s))
		}
		r, _ = Decode(p.version, p.bytes)
		checkEncode(t, p.version, r, p.bytes, api.OK)
	}
}

// C5: what version 1 does not know it carries, byte for byte; what it wrote is what version 2 reads.
func TestCarried(t *testing.T) {
	for _, p := range pairs() {
		if p.version != 2 {
			continue
		}
		r, e := Decode(1, p.bytes)
		if e != api.OK || r.Life != 0 || r.Note != "" {
			t.Errorf("Decode(1, %q) = Life %d, Note %q, %d", short(p.bytes), r.Life, r.Note, e)
		}
		s, e := Encode(1, r)
		if s != p.bytes || e != api.OK {
			t.Errorf("%q, by version 1, becomes %q, %d", short(p.bytes), short(s), e)
		}
		checkDecode(t, 2, s, p.record, api.OK)
	}
}

// R3: what is handed in is as it was, behind its length, too.
func TestHandedInAsItWas(t *testing.T) {
	for _, last := range []api.Field{{Tag: 9, Data: "c"}, {Tag: 1}} {
		l := []api.Field{{Tag: 7, Data: "a"}, {Tag: 8}, last, {Tag: 77, Data: "behind"}, {Tag: 78}, {Tag: 79}, {Tag: 80}}
		was := slices.Clone(l)
		r := api.Record{Key: "k", Value: "v", Rev: 1, Extra: l[:3]}
		for _, v := range []int{0, 1, 2} {
			Right(v, r)
			Encode(v, r)
		}
		Same(r, api.Record{Key: "k", Value: "v", Rev: 1, Extra: was})
		if !slices.Equal(l, was) {
			t.Errorf("%v became %v", was, l)
		}
	}
}

// R3: two answers share nothing, spare room neither.
func TestAnswersAreNew(t *testing.T) {
	const s = "\x01\x01a\x04\x01\x01\x06\x01b\x07\x01c\x08\x01d"
	for _, v := range []int{1, 2} {
		want, _ := wantDecode(v, s)
		a, _ := Decode(v, s)
		b, _ := Decode(v, s)
		a.Extra = append(a.Extra, api.Field{Tag: 9})
		b.Extra = append(b.Extra, api.Field{Tag: 10})
		clear(b.Extra[:cap(b.Extra)])
		want.Extra = append(want.Extra, api.Field{Tag: 9})
		if !equal(a, want) {
			t.Errorf("%v; want %v", a, want)
		}
		checkWords(t, v, s)
	}
}

func FuzzDecode(f *testing.F) {
	for _, p := range pairs() {
		f.Add(p.version, p.bytes)
	}
	f.Fuzz(checkWords)
}

func FuzzEncode(f *testing.F) {
	f.Add(1, "a", "b", 1, 0, "", 4, "\x07", 6, "")
	f.Add(2, "a", "b", 1<<53, 1<<53, "n", 6, "x", 7, "y")
	f.Add(3, "", "", -1, -1, "", 1, "", 0, "")
	f.Fuzz(func(t *testing.T, v int, key, value string, rev, life int, note string, tag1 int, data1 string, tag2 int, data2 string) {
		l := []api.Field{{Tag: tag1, Data: data1}, {Tag: tag2, Data: data2}}
		for k := range 3 {
			checkRecord(t, v, api.Record{Key: key, Value: value, Rev: rev, Life: life, Note: note, Extra: l[:k]})
		}
	})
}
