package field

import (
	"slices"
	"strings"
	"testing"

	"careen/api"
	"careen/varint"
)

// pair is fields, and the bytes that they have.
type pair struct {
	fields []api.Field
	bytes  string
}

// pairs are written out, or, where they are long, built of what is written out.
func pairs() []pair {
	data := strings.Repeat("y", 1000)
	return []pair{
		{nil, ""},
		{[]api.Field{{Tag: 1}}, "\x01\x00"},
		{[]api.Field{{Tag: 2, Data: "ab"}}, "\x02\x02ab"},
		{[]api.Field{{Tag: 1, Data: "\x00"}}, "\x01\x01\x00"},
		{[]api.Field{{Tag: 127, Data: "\xff\x80"}}, "\x7f\x02\xff\x80"},
		{[]api.Field{{Tag: 128}}, "\x80\x01\x00"},
		{[]api.Field{{Tag: 300, Data: "x"}}, "\xac\x02\x01x"},
		{[]api.Field{{Tag: 1}, {Tag: 2}, {Tag: 3}}, "\x01\x00\x02\x00\x03\x00"},
		{[]api.Field{{Tag: 1, Data: "a"}, {Tag: 5, Data: "bcd"}, {Tag: 128, Data: "e"}}, "\x01\x01a\x05\x03bcd\x80\x01\x01e"},
		{[]api.Field{{Tag: 999999}, {Tag: 1000000, Data: "z"}}, "\xbf\x84\x3d\x00\xc0\x84\x3d\x01z"},
		{[]api.Field{{Tag: 1, Data: "b"}, {Tag: 1000000}}, "\x01\x01b\xc0\x84\x3d\x00"},
		{[]api.Field{{Tag: 3, Data: data[:127]}}, "\x03\x7f" + data[:127]},
		{[]api.Field{{Tag: 3, Data: data[:128]}}, "\x03\x80\x01" + data[:128]},
		{[]api.Field{{Tag: 3, Data: data[:999]}}, "\x03\xe7\x07" + data[:999]},
		{[]api.Field{{Tag: 3, Data: data}, {Tag: 4}}, "\x03\xe8\x07" + data + "\x04\x00"},
		manyEmpty(64),
		longest(10000),
	}
}

// manyEmpty is n fields without Data, n below 128.
func manyEmpty(n int) pair {
	var p pair
	for i := range n {
		p.fields = append(p.fields, api.Field{Tag: i + 1})
		p.bytes += string([]byte{byte(i + 1), 0})
	}
	return p
}

// longest is ten fields of n bytes in all, n from some 9100 to 10030.
func longest(n int) pair {
	var p pair
	for i := range 9 {
		data := strings.Repeat(string(rune('a'+i)), 1000)
		p.fields = append(p.fields, api.Field{Tag: i + 1, Data: data})
		p.bytes += string([]byte{byte(i + 1)}) + "\xe8\x07" + data
	}
	last := n - 9*1003 - 3
	p.fields = append(p.fields, api.Field{Tag: 100, Data: strings.Repeat("z", last)})
	p.bytes += "\x64" + string([]byte{byte(last%128 + 128), byte(last / 128)}) + strings.Repeat("z", last)
	return p
}

// wrongs are fields that may not be.
func wrongs() [][]api.Field {
	long := strings.Repeat("x", 1001)
	return [][]api.Field{
		{{}},
		{{Tag: 0, Data: "a"}},
		{{Tag: -1}},
		{{Tag: -1 << 63}},
		{{Tag: 1000001}},
		{{Tag: 1<<63 - 1}},
		{{Tag: 1}, {Tag: 1}},
		{{Tag: 2}, {Tag: 1}},
		{{Tag: 1}, {Tag: 0}},
		{{Tag: 1}, {Tag: 1000001}},
		{{Tag: 1000000}, {Tag: 1000000}},
		{{Tag: 1}, {Tag: 2}, {Tag: 4}, {Tag: 3}},
		{{Tag: 1}, {Tag: 3}, {Tag: 2}, {Tag: 4}},
		{{Tag: 1, Data: "a"}, {Tag: 2, Data: "b"}, {Tag: 2, Data: "b"}, {Tag: 3}},
		{{Tag: 1, Data: long}},
		{{Tag: 1}, {Tag: 2, Data: long}, {Tag: 3}},
		{{Tag: 1, Data: long + long}},
		manyEmpty(65).fields,
		manyEmpty(127).fields,
		append(manyEmpty(64).fields, api.Field{Tag: 1000000}),
		make([]api.Field, 100000),
	}
}

// wantRight is promise B1 by its words.
func wantRight(l []api.Field) bool {
	for i, f := range l {
		if f.Tag < 1 || f.Tag > 1000000 || len(f.Data) > 1000 || i >= 64 || i > 0 && f.Tag <= l[i-1].Tag {
			return false
		}
	}
	return true
}

// wantEncode is promise B2 by its words.
func wantEncode(l []api.Field) (string, api.Errno) {
	if !wantRight(l) {
		return "", api.ErrArg
	}
	s := ""
	for _, f := range l {
		tag, _ := varint.Put(f.Tag)
		size, _ := varint.Put(len(f.Data))
		s += tag + size + f.Data
	}
	if len(s) > 10000 {
		return "", api.ErrLong
	}
	return s, api.OK
}

// wantDecode is promise B3 by its words, in their order.
func wantDecode(s string) ([]api.Field, api.Errno) {
	if len(s) > 10000 {
		return nil, api.ErrLong
	}
	var l []api.Field
	for at := 0; at < len(s); {
		tag, k, e := varint.Take(s[at:])
		if e != api.OK {
			return nil, e
		}
		if tag < 1 || tag > 1000000 {
			return nil, api.ErrTags
		}
		if len(l) > 0 && tag <= l[len(l)-1].Tag {
			return nil, api.ErrTags
		}
		at += k
		n, k, e := varint.Take(s[at:])
		if e != api.OK {
			return nil, e
		}
		if n > 1000 {
			return nil, api.ErrForm
		}
		at += k
		if len(s)-at < n {
			return nil, api.ErrCut
		}
		if len(l) == 64 {
			return nil, api.ErrForm
		}
		l = append(l, api.Field{Tag: tag, Data: s[at : at+n]})
		at += n
	}
	return l, api.OK
}

// short is what stands in a test's message of a text.
func short(s string) string {
	if len(s) > 60 {
		return s[:60] + ".."
	}
	return s
}

func checkEncode(t *testing.T, l []api.Field, want string, wantE api.Errno) {
	t.Helper()
	if s, e := Encode(l); s != want || e != wantE {
		t.Errorf("Encode of %d fields = %q, %d; want %q, %d", len(l), short(s), e, short(want), wantE)
	}
}

func checkDecode(t *testing.T, s string, want []api.Field, wantE api.Errno) {
	t.Helper()
	if l, e := Decode(s); !slices.Equal(l, want) || e != wantE {
		t.Errorf("Decode(%q) = %d fields, %d; want %d, %d", short(s), len(l), e, len(want), wantE)
	}
}

// B1: what may be, and what may not.
func TestRight(t *testing.T) {
	for _, p := range pairs() {
		if !Right(p.fields) {
			t.Errorf("the fields of %q are not right", short(p.bytes))
		}
	}
	for i, l := range wrongs() {
		if Right(l) {
			t.Errorf("wrong fields %d are right", i)
		}
	}
	if l := []api.Field{}; !Right(l) {
		t.Error("no fields are not right")
	}
	if !Right(longest(10001).fields) {
		t.Error("fields of 10001 bytes are not right: how many bytes they have in all is not asked")
	}
}

// B1: all lists of three of the tags at the edges.
func TestRightTags(t *testing.T) {
	tags := []int{-1 << 63, -1, 0, 1, 2, 3, 999999, 1000000, 1000001, 1<<63 - 1}
	for _, a := range tags {
		for _, b := range tags {
			for _, c := range tags {
				l := []api.Field{{Tag: a}, {Tag: b}, {Tag: c}}
				if Right(l) != wantRight(l) || Right(l[:2]) != wantRight(l[:2]) {
					t.Errorf("Right of the tags %d, %d, %d", a, b, c)
				}
			}
		}
	}
}

// B2: fields' bytes, written out.
func TestEncode(t *testing.T) {
	for _, p := range pairs() {
		checkEncode(t, p.fields, p.bytes, api.OK)
	}
	checkEncode(t, []api.Field{}, "", api.OK)
}

// B2: what is not right is refused, and nothing else is answered.
func TestEncodeNotRight(t *testing.T) {
	for _, l := range wrongs() {
		checkEncode(t, l, "", api.ErrArg)
	}
}

// B2: 10000 bytes may be, one more may not.
func TestEncodeLong(t *testing.T) {
	for n := 9900; n < 10030; n++ {
		p := longest(n)
		if len(p.bytes) != n {
			t.Fatalf("%d bytes, not %d", len(p.bytes), n)
		}
		if n <= 10000 {
			checkEncode(t, p.fields, p.bytes, api.OK)
		} else {
			checkEncode(t, p.fields, "", api.ErrLong)
		}
	}
	var most []api.Field
	for i := range 64 {
		most = append(most, api.Field{Tag: 1000000 - 64 + i + 1, Data: strings.Repeat("x", 1000)})
	}
	checkEncode(t, most, "", api.ErrLong)
}

// B2: that they are not right is told ahead of their being too long.
func TestEncodeNotRightAndLong(t *testing.T) {
	l := longest(10001).fields
	checkEncode(t, append(l, api.Field{Tag: 100}), "", api.ErrArg)
	l[9].Data += strings.Repeat("z", 1000)
	checkEncode(t, l, "", api.ErrArg)
}

// B3: the fields of bytes, written out.
func TestDecode(t *testing.T) {
	for _, p := range pairs() {
		checkDecode(t, p.bytes, p.fields, api.OK)
	}
}

// B3: above 10000 bytes nothing else is looked at.
func TestDecodeLong(t *testing.T) {
	for _, s := range []string{"x", "\x00", "\x80", "\x01\x00"} {
		checkDecode(t, strings.Repeat(s, 10002)[:10001], nil, api.ErrLong)
	}
	checkDecode(t, longest(10001).bytes, nil, api.ErrLong)
	checkDecode(t, strings.Repeat("\x00", 10000), nil, api.ErrTags)
	checkDecode(t, strings.Repeat("x", 1000000), nil, api.ErrLong)
}

// B3: each error, alone.
func TestDecodeErrors(t *testing.T) {
	data := strings.Repeat("y", 1001)
	cases := []struct {
		bytes string
		e     api.Errno
	}{
		{"\x80", api.ErrCut}, // of the tag's number
		{"\xc0\x84", api.ErrCut},
		{"\x81\x00\x00", api.ErrForm},
		{"\x80\x00", api.ErrForm},
		{"\xff\xff\xff\xff\xff\xff\xff\xff", api.ErrForm},
		{"\x00\x00", api.ErrTags}, // not from 1 to 1000000
		{"\x00", api.ErrTags},
		{"\xc1\x84\x3d\x00", api.ErrTags},
		{"\x80\x80\x80\x80\x80\x80\x80\x10\x00", api.ErrTags},
		{"\x02\x00\x02\x00", api.ErrTags}, // not above the one ahead
		{"\x02\x00\x01\x00", api.ErrTags},
		{"\x01\x00\x03\x00\x02\x00", api.ErrTags},
		{"\xc0\x84\x3d\x00\xc0\x84\x3d\x00", api.ErrTags},
		{"\x01", api.ErrCut}, // of the number of bytes
		{"\x01\x80", api.ErrCut},
		{"\x01\x81\x00", api.ErrForm},
		{"\x01\x80\x00", api.ErrForm},
		{"\x01\xff\xff\xff\xff\xff\xff\xff\xff", api.ErrForm},
		{"\x01\xe9\x07", api.ErrForm}, // above 1000
		{"\x01\xe9\x07" + data, api.ErrForm},
		{"\x01\x80\x80\x80\x80\x80\x80\x80\x10", api.ErrForm},
		{"\x01\x01", api.ErrCut}, // fewer are left
		{"\x01\x02a", api.ErrCut},
		{"\x01\xe8\x07", api.ErrCut},
		{"\x01\xe8\x07" + data[:999], api.ErrCut},
		{"\x01\x00\x02\x01", api.ErrCut},
		{manyEmpty(65).bytes, api.ErrForm}, // the 65th
		{manyEmpty(66).bytes, api.ErrForm},
		{manyEmpty(64).bytes + "\x41\x02ab", api.ErrForm},
	}
	for _, c := range cases {
		checkDecode(t, c.bytes, nil, c.e)
	}
}

// B3: of several errors it is the first one, field by field and, within a field, in the chapter's order.
func TestDecodeFirstError(t *testing.T) {
	full := manyEmpty(64).bytes
	cases := []struct {
		bytes string
		e     api.Errno
	}{
		{"\x81\x00\x81\x00", api.ErrForm},
		{"\x00\x80", api.ErrTags}, // the tag ahead of the number of bytes
		{"\x00\x81\x00", api.ErrTags},
		{"\x00\xe9\x07", api.ErrTags},
		{"\x00\x05", api.ErrTags},
		{"\x02\x00\x02\xe9\x07", api.ErrTags},
		{"\x02\x00\x01\x05", api.ErrTags},
		{"\x01\xe9\x07a", api.ErrForm}, // too many bytes ahead of fewer being left
		{"\x01\x05a\x00", api.ErrCut},  // a field ahead of the next one
		{"\x01\x02a\x00\x00\x00", api.ErrTags},
		{"\x01\x01a\x00\x81\x00", api.ErrTags},
		{"\x01\xe9\x07\x00\x00", api.ErrForm},
		{full + "\x80", api.ErrCut}, // what is wrong within the 65th ahead of its being there
		{full + "\x00\x00", api.ErrTags},
		{full + "\x40\x00", api.ErrTags},
		{full + "\x41", api.ErrCut},
		{full + "\x41\x01", api.ErrCut},
		{full + "\x41\x00\x00\x00", api.ErrForm}, // the 65th ahead of the 66th
		{full + "\x41\x00\x42\x01", api.ErrForm},
		{full[:126] + "\x3f\x00\x41\x00", api.ErrTags}, // the 64th ahead of the 65th
	}
	for _, c := range cases {
		checkDecode(t, c.bytes, nil, c.e)
	}
}

// checkWords holds Decode and Encode against the words, and against B5.
func checkWords(t *testing.T, s string) {
	t.Helper()
	l, e := wantDecode(s)
	checkDecode(t, s, l, e)
	if e == api.OK {
		checkEncode(t, l, s, api.OK)
		if !Right(l) {
			t.Errorf("Decode(%q) is not right", short(s))
		}
	}
}

// B3, B5: all texts of at most seven of the signs at which the answer turns.
func TestDecodeByTheWords(t *testing.T) {
	texts := []string{""}
	for range 8 {
		var longer []string
		for _, s := range texts {
			checkWords(t, s)
			for _, c := range []string{"\x00", "\x01", "\x02", "\x03", "\x80"} {
				longer = append(longer, s+c)
			}
		}
		texts = longer
	}
	for a := range 256 {
		for b := range 256 {
			checkWords(t, string([]byte{byte(a), byte(b)}))
			checkWords(t, string([]byte{1, byte(a), byte(b), 1, 2, 3}))
			checkWords(t, string([]byte{byte(a), 1, byte(b), byte(b), 1, byte(a)}))
		}
	}
}

// B3: each byte of right texts, changed to each other one.
func TestDecodeChanged(t *testing.T) {
	for _, p := range pairs() {
		if len(p.bytes) > 200 {
			continue
		}
		for i := range p.bytes {
			b := []byte(p.bytes)
			for c := range 256 {
				b[i] = byte(c)
				checkWords(t, string(b))
			}
		}
	}
}

// B4: the first field of a tag; of fields that are not right, too.
func TestFind(t *testing.T) {
	l := []api.Field{{Tag: 1, Data: "a"}, {Tag: 3, Data: ""}, {Tag: 7, Data: "c"}, {Tag: 7, Data: "d"}, {Tag: 2, Data: "e"}, {Tag: 0, Data: "f"}, {Tag: -5, Data: "g"}, {Tag: 1 << 60, Data: "h"}, {Tag: 3, Data: "i"}}
	cases := []struct {
		tag  int
		data string
		ok   bool
	}{
		{1, "a", true}, {3, "", true}, {7, "c", true}, {2, "e", true}, {0, "f", true}, {-5, "g", true}, {1 << 60, "h", true},
		{4, "", false}, {8, "", false}, {-1, "", false}, {6, "", false}, {1000000, "", false},
	}
	for _, c := range cases {
		if d, ok := Find(l, c.tag); d != c.data || ok != c.ok {
			t.Errorf("Find(%d) = %q, %v; want %q, %v", c.tag, d, ok, c.data, c.ok)
		}
	}
	for _, tag := range []int{-1, 0, 1, 2} {
		if d, ok := Find(nil, tag); d != "" || ok {
			t.Errorf("Find(%d) among none = %q, %v", tag, d, ok)
		}
	}
}

// B5: Decode undoes Encode, and Encode Decode; each tag is found.
func TestThereAndBack(t *testing.T) {
	for _, p := range pairs() {
		s, _ := Encode(p.fields)
		checkDecode(t, s, p.fields, api.OK)
		l, _ := Decode(p.bytes)
		checkEncode(t, l, p.bytes, api.OK)
		for _, f := range p.fields {
			if d, ok := Find(l, f.Tag); d != f.Data || !ok {
				t.Errorf("Find(%d) = %q, %v", f.Tag, short(d), ok)
			}
		}
	}
}

// B5: cut off within a field it is ErrCut; between two it is those ahead.
func TestCutOff(t *testing.T) {
	for _, p := range pairs() {
		ends := map[int]int{0: 0} // how many fields end at a place
		for i := range p.fields {
			s, _ := wantEncode(p.fields[:i+1])
			ends[len(s)] = i + 1
		}
		for k := range p.bytes {
			if n, ok := ends[k]; ok {
				checkDecode(t, p.bytes[:k], p.fields[:n], api.OK)
			} else {
				checkDecode(t, p.bytes[:k], nil, api.ErrCut)
			}
		}
	}
}

// R3: what is handed in is as it was, behind its length, too.
func TestHandedInAsItWas(t *testing.T) {
	for _, last := range []api.Field{{Tag: 9, Data: "c"}, {Tag: 1}} {
		l := []api.Field{{Tag: 1, Data: "a"}, {Tag: 3}, last, {Tag: 77, Data: "behind"}}
		was := slices.Clone(l)
		Right(l[:3])
		Encode(l[:3])
		Find(l[:3], 9)
		Find(l[:3], 77)
		if !slices.Equal(l, was) {
			t.Errorf("%v became %v", was, l)
		}
	}
	if _, ok := Find([]api.Field{{Tag: 1}, {Tag: 2}}[:1], 2); ok {
		t.Error("found behind the length")
	}
}

// R3: two answers share nothing, spare room neither.
func TestAnswersAreNew(t *testing.T) {
	s := "\x01\x01a\x02\x01b\x03\x01c"
	l, _ := Decode(s)
	m, _ := Decode(s)
	l = append(l, api.Field{Tag: 4, Data: "d"})
	m = append(m, api.Field{Tag: 5, Data: "e"})
	clear(m)
	if want := []api.Field{{Tag: 1, Data: "a"}, {Tag: 2, Data: "b"}, {Tag: 3, Data: "c"}, {Tag: 4, Data: "d"}}; !slices.Equal(l, want) {
		t.Errorf("%v; want %v", l, want)
	}
}

func FuzzDecode(f *testing.F) {
	for _, p := range pairs() {
		f.Add(p.bytes)
	}
	f.Fuzz(checkWords)
}

func FuzzEncode(f *testing.F) {
	f.Add(1, "a", 2, "b", 3, "c")
	f.Add(1000000, "", 1, "", 0, "")
	f.Fuzz(func(t *testing.T, tag1 int, data1 string, tag2 int, data2 string, tag3 int, data3 string) {
		l := []api.Field{{Tag: tag1, Data: data1}, {Tag: tag2, Data: data2}, {Tag: tag3, Data: data3}}
		for k := range 4 {
			s, e := wantEncode(l[:k])
			checkEncode(t, l[:k], s, e)
			if Right(l[:k]) != wantRight(l[:k]) {
				t.Errorf("Right(%v)", l[:k])
			}
			if e == api.OK {
				checkDecode(t, s, l[:k], api.OK)
			}
		}
	})
}
