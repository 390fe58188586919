package shard

import (
	"encoding/binary"
	"fmt"
	"hash/crc32"
	"math"
	"slices"
	"strings"
	"testing"
	"time"

	"careen/api"
	"careen/record"
)

// number is a number's bytes, by the library.
func number(n int) string {
	return string(binary.AppendUvarint(nil, uint64(n)))
}

// sized is a text, and how many bytes it has ahead of it.
func sized(s string) string {
	return number(len(s)) + s
}

// sealed is a text, and its sum's four bytes, by the library.
func sealed(s string) string {
	return string(binary.LittleEndian.AppendUint32([]byte(s), crc32.ChecksumIEEE([]byte(s))))
}

// by makes a text that is all but the letter and the sum a shard's bytes, by a version.
func by(v int, body string) string {
	if v == 1 {
		return "s" + body
	}
	return sealed("t" + body)
}

// wantRecord is a record's bytes by the words of chapters 2 and 3: they are the same by both versions.
func wantRecord(r api.Record) string {
	s := "\x01" + sized(r.Key)
	if r.Value != "" {
		s += "\x02" + sized(r.Value)
	}
	if r.Rev != 0 {
		s += "\x03" + sized(number(r.Rev))
	}
	if r.Life != 0 {
		s += "\x04" + sized(number(r.Life))
	}
	if r.Note != "" {
		s += "\x05" + sized(r.Note)
	}
	for _, f := range r.Extra {
		s += number(f.Tag) + sized(f.Data)
	}
	return s
}

// wantDone is the bytes of a client's last call, by the words.
func wantDone(d api.Done) string {
	s := number(d.Client) + number(d.Id) + number(int(d.Reply.Errno)) + number(d.Reply.Rev) + sized(d.Reply.Value) + number(len(d.Reply.Keys))
	for _, k := range d.Reply.Keys {
		s += sized(k)
	}
	return s
}

// wantBody is a shard's bytes by the words, without the letter and the sum: they are the same by both versions.
func wantBody(s api.Shard) string {
	frozen := "\x00"
	if s.Frozen {
		frozen = "\x01"
	}
	b := number(s.Id) + number(s.Epoch) + frozen + number(len(s.Table)) + number(len(s.Cache))
	for _, r := range s.Table {
		b += sized(wantRecord(r))
	}
	for _, d := range s.Cache {
		b += wantDone(d)
	}
	return b
}

// loose takes numbers and texts, whatever bytes they have: what it took is held against the bytes that there should have been.
type loose struct {
	s   string
	bad bool
}

func (l *loose) number() int {
	n, k := binary.Uvarint([]byte(l.s[:min(len(l.s), 10)]))
	if k <= 0 || n > 1<<60 {
		l.s, l.bad = "", true
		return 0
	}
	l.s = l.s[k:]
	return int(n)
}

func (l *loose) text() string {
	n := l.number()
	if n > len(l.s) {
		l.s, l.bad = "", true
		return ""
	}
	s := l.s[:n]
	l.s = l.s[n:]
	return s
}

// record takes a record, tag by tag.
func (l *loose) record() api.Record {
	in, r := loose{s: l.text()}, api.Record{}
	for in.s != "" && !in.bad {
		tag, data := in.number(), in.text()
		value := loose{s: data}
		switch tag {
		case 1:
			r.Key = data
		case 2:
			r.Value = data
		case 3:
			r.Rev = value.number()
		case 4:
			r.Life = value.number()
		case 5:
			r.Note = data
		default:
			r.Extra = append(r.Extra, api.Field{Tag: tag, Data: data})
		}
	}
	l.bad = l.bad || in.bad
	return r
}

// wantDecode is N4 by its words: what a text seems to tell, if that is right, and its bytes are the text.
func wantDecode(v int, text string) (api.Shard, api.Errno) {
	if v < 1 || v > 2 {
		return api.Shard{}, 1
	}
	l := loose{s: text[min(1, len(text)):]}
	s := api.Shard{Id: l.number(), Epoch: l.number(), Frozen: l.number() == 1}
	records, replies := l.number(), l.number()
	for i := 0; i < records && i < 100 && !l.bad; i++ {
		s.Table = append(s.Table, l.record())
	}
	for i := 0; i < replies && i < 100 && !l.bad; i++ {
		d := api.Done{Client: l.number(), Id: l.number()}
		d.Reply = api.Reply{Errno: api.Errno(l.number()), Rev: l.number(), Value: l.text()}
		for range min(l.number(), 100) {
			d.Reply.Keys = append(d.Reply.Keys, l.text())
		}
		s.Cache = append(s.Cache, d)
	}
	if l.bad || !wantRight(s) || by(v, wantBody(s)) != text {
		return api.Shard{}, 11
	}
	return s, 0
}

// checkDecode holds Decode to what is to be told, and asks that what comes out is new memory.
func checkDecode(t *testing.T, v int, text string, want api.Shard, e api.Errno) {
	t.Helper()
	for _, again := range []string{"", ", asked again"} {
		s, got := Decode(v, text)
		if !equal(s, want) || got != e {
			t.Errorf("Decode(%d, %.200q)%s = %s, %d; want %s, %d", v, text, again, say(s), got, say(want), e)
		}
		if overwriteAll(s) {
			t.Errorf("Decode(%d, %.200q) gives out a list twice", v, text)
		}
	}
}

// checkNone asks that a text is no shard's bytes.
func checkNone(t *testing.T, v int, text string) {
	t.Helper()
	checkDecode(t, v, text, api.Shard{}, api.ErrForm)
}

// checkText holds Decode of a text against N4's words, by either version: as it is, and as all but the letter and the sum. It tells how often there was a shard.
func checkText(t *testing.T, text string) int {
	t.Helper()
	n := 0
	for v := 1; v <= 2; v++ {
		for _, s := range []string{text, by(v, text)} {
			want, e := wantDecode(v, s)
			checkDecode(t, v, s, want, e)
			if e == 0 {
				n++
			}
		}
	}
	return n
}

// N3: written out: the bytes of a shard that has some of all.
func TestEncode(t *testing.T) {
	s := api.Shard{Id: 3, Epoch: 300, Frozen: true, Table: []api.Record{
		{Key: "a"},
		{Key: "b", Value: "xy", Rev: 200, Life: 7, Note: "n", Extra: []api.Field{{Tag: 6, Data: "e"}, {Tag: 300}}},
	}, Cache: []api.Done{
		last(1, 130, fails(70)),
		last(1000, 1, api.Reply{Errno: 255, Rev: 129, Value: "val", Keys: []string{"k", "", "ll"}}),
	}}
	body := "\x03\xac\x02\x01\x02\x02" +
		"\x03\x01\x01a" +
		"\x17\x01\x01b\x02\x02xy\x03\x02\xc8\x01\x04\x01\x07\x05\x01n\x06\x01e\xac\x02\x00" +
		"\x01\x82\x01\x46\x00\x00\x00" +
		"\xe8\x07\x01\xff\x01\x81\x01\x03val\x03\x01k\x00\x02ll"
	if one, e := Encode(1, s); one != "s"+body || e != api.OK {
		t.Errorf("%q, %d", one, e)
	}
	if two, e := Encode(2, s); two != sealed("t"+body) || e != api.OK {
		t.Errorf("%q, %d", two, e)
	}
	checkDecode(t, 1, "s"+body, s, api.OK)
	checkDecode(t, 2, sealed("t"+body), s, api.OK)
	for v, want := range []string{"", "s\x00\x01\x00\x00\x00", "t\x00\x01\x00\x00\x00\x11\x89\xcd\x99"} {
		for _, s := range []api.Shard{{Epoch: 1}, {Epoch: 1, Table: []api.Record{}, Cache: []api.Done{}}} {
			if got, e := Encode(v, s); v > 0 && (got != want || e != api.OK) {
				t.Errorf("%d: %q, %d", v, got, e)
			}
		}
	}
}

// N3 and N5: of all right shards, by either version: the bytes are those of the words, Decode undoes Encode, both versions' bytes tell the same shard, and neither reads the other one's.
func TestThereAndBack(t *testing.T) {
	for _, s := range shards() {
		in, watched := held(s)
		body := wantBody(s)
		for v := 1; v <= 2; v++ {
			for _, again := range []string{"", "again"} {
				if got, e := Encode(v, in); got != by(v, body) || e != api.OK {
					t.Errorf("Encode(%d, %s) %s = %.200q, %d", v, say(s), again, got, e)
				}
			}
			if watched.tells() {
				t.Errorf("Encode(%d, %s) wrote into it", v, say(s))
			}
			checkDecode(t, v, by(v, body), s, api.OK)
			checkNone(t, 3-v, by(v, body))
			if back, e := Decode(v, by(v, body)); !Right(back) || !Same(back, s) || e != api.OK {
				t.Errorf("%s comes back as %s, %d", say(s), say(back), e)
			}
		}
	}
}

// N3: versions that are none, and shards that are not right.
func TestEncodeRefuses(t *testing.T) {
	for _, v := range []int{math.MinInt, -1, 0, 3, 4, 255, 257, math.MaxInt} {
		for _, s := range []api.Shard{{Epoch: 1}, base(), {}} {
			if got, e := Encode(v, s); got != "" || e != api.ErrArg {
				t.Errorf("Encode(%d, %s) = %q, %d", v, say(s), got, e)
			}
		}
	}
	for _, s := range wrongShards() {
		in, watched := held(s)
		for v := 0; v <= 3; v++ {
			if got, e := Encode(v, in); got != "" || e != api.ErrArg || watched.tells() {
				t.Errorf("Encode(%d, %s) = %q, %d", v, say(s), got, e)
			}
		}
	}
}

// N3: the greatest shard that there is, and records with one field, and with one byte, more: no right record is too long, so what is more is not right.
func TestGreatest(t *testing.T) {
	var all []api.Record
	for i := range 20 {
		all = append(all, fullest(fmt.Sprintf("k%02d", i)))
	}
	var l []api.Done
	for i := range 8 {
		l = append(l, last(993+i, most, api.Reply{Errno: 255, Rev: most, Value: text(200), Keys: slices.Repeat([]string{text(16)}, 5)}))
	}
	s := api.Shard{Id: 7, Epoch: most, Frozen: true, Table: all, Cache: l}
	for v := 1; v <= 2; v++ {
		got, e := Encode(v, s)
		if got != by(v, wantBody(s)) || e != api.OK || len(wantRecord(all[0])) != 8323 || !strings.Contains(got, number(8323)+"\x01\x10k00") {
			t.Errorf("%d bytes, %d", len(got), e)
		}
		checkDecode(t, v, got, s, api.OK)
		for _, change := range []func(r *api.Record){
			func(r *api.Record) { r.Key += "x" },
			func(r *api.Record) { r.Value += "x" },
			func(r *api.Record) { r.Rev++ },
			func(r *api.Record) { r.Life++ },
			func(r *api.Record) { r.Note += "x" },
			func(r *api.Record) { r.Extra[7].Data += "x" },
			func(r *api.Record) { r.Extra[7].Tag++ },
			func(r *api.Record) { r.Extra = append([]api.Field{{Tag: 6}}, r.Extra...) },
		} {
			more := deep(s)
			change(&more.Table[19])
			if got, e := Encode(v, more); got != "" || e != api.ErrArg {
				t.Errorf("more than the greatest: %d bytes, %d", len(got), e)
			}
			checkNone(t, v, by(v, wantBody(more)))
		}
	}
}

// N4: versions that are none, whatever the bytes.
func TestDecodeVersions(t *testing.T) {
	for _, v := range []int{math.MinInt, -1, 0, 3, 4, 255, 257, math.MaxInt} {
		for _, s := range []string{"", "s", "t", by(1, wantBody(base())), by(2, wantBody(base()))} {
			checkDecode(t, v, s, api.Shard{}, api.ErrArg)
		}
	}
}

// N4: what is cut off at each place, has more behind it, begins with another letter.
func TestDecodeCut(t *testing.T) {
	for _, s := range shards() {
		if len(wantBody(s)) > 3000 {
			continue
		}
		for v := 1; v <= 2; v++ {
			all := by(v, wantBody(s))
			for k := range len(all) {
				checkNone(t, v, all[:k])
				checkNone(t, v, all[k+1:])
			}
			for _, more := range []string{"\x00", "\x01", "s", "t", "\xff", all, text(5000)} {
				checkNone(t, v, all+more)
				checkNone(t, v, more+all)
				checkNone(t, v, by(v, wantBody(s)+more))
			}
			for c := range 256 {
				if c != int(all[0]) {
					checkNone(t, v, string([]byte{byte(c)})+all[1:])
				}
			}
			checkNone(t, 2, sealed(sealed("t"+wantBody(s))))
			checkNone(t, 2, sealed("s"+wantBody(s)))
			checkNone(t, 2, "t"+wantBody(s))
			checkNone(t, 1, sealed("s"+wantBody(s)))
		}
		body := wantBody(s) // cut off, and the sum that of what is left
		for k := range len(body) {
			checkNone(t, 1, by(1, body[:k]))
			checkNone(t, 2, by(2, body[:k]))
		}
	}
}

// N4 and N5: each byte changed to each other one, left out, doubled: by version 2 the sum tells it; else there is a shard just if these are its bytes.
func TestDecodeChanged(t *testing.T) {
	small := api.Shard{Id: 2, Epoch: 130, Frozen: true, Table: []api.Record{laden("a", "x", 3), rec("b", "y", 200)}, Cache: []api.Done{last(1, 9, api.Reply{Errno: 71, Rev: 3, Value: "v", Keys: []string{"k", "l"}}), last(2, 1, rep(0, ""))}}
	body, there := wantBody(small), 0
	for k := range len(body) {
		for c := range 256 {
			if byte(c) == body[k] {
				continue
			}
			there += checkText(t, body[:k]+string([]byte{byte(c)})+body[k+1:])
			all := []byte(by(2, body))
			all[k+1] = byte(c)
			checkNone(t, 2, string(all))
		}
		there += checkText(t, body[:k]+body[k+1:])
		there += checkText(t, body[:k]+body[k:k+1]+body[k:])
		for _, more := range []string{"\x00", "\x01", "\x80", "\xff"} {
			there += checkText(t, body[:k]+more+body[k:])
		}
	}
	if there < 1000 {
		t.Errorf("there was a shard %d times", there)
	}
	all := by(2, body)
	for k := len(all) - 4; k < len(all); k++ { // a wrong sum
		for c := range 256 {
			if byte(c) != all[k] {
				checkNone(t, 2, all[:k]+string([]byte{byte(c)})+all[k+1:])
			}
		}
	}
}

// N4: numbers that are longer than they need be, wherever one stands.
func TestDecodeLongNumbers(t *testing.T) {
	small := api.Shard{Id: 2, Epoch: 5, Table: []api.Record{{Key: "a", Value: "x", Rev: 3, Life: 7}}, Cache: []api.Done{last(1, 9, api.Reply{Errno: 71, Rev: 3, Value: "v", Keys: []string{"k"}})}}
	body := wantBody(small)
	for k := range len(body) {
		for _, long := range []string{"\x00", "\x80\x00", "\x80\x80\x00", "\x80\x80\x80\x80\x80\x80\x00"} {
			s := body[:k] + string([]byte{body[k] | 128}) + long + body[k+1:]
			if checkText(t, s) > 0 {
				t.Errorf("%q is a shard's bytes", s)
			}
		}
	}
}

// parts are the numbers and texts of a shard's bytes, one by one, so that each may be another one.
type parts struct {
	id, epoch, frozen, records, replies string
	table, cache                        []string
}

func (p parts) body() string {
	return p.id + p.epoch + p.frozen + p.records + p.replies + strings.Join(p.table, "") + strings.Join(p.cache, "")
}

// ordinary is a shard of two records and two clients in parts.
func ordinary() parts {
	return parts{
		number(2), number(5), number(0), number(2), number(2),
		[]string{sized(wantRecord(rec("a", "x", 1))), sized(wantRecord(laden("b", "y", 2)))},
		[]string{wantDone(last(1, 9, rep(1, "v", "k"))), wantDone(last(2, 8, fails(70)))},
	}
}

// N4: each number at its edges: what may be, and what may not.
func TestDecodeEdges(t *testing.T) {
	checks := func(name string, want bool, change func(p *parts)) {
		t.Helper()
		p := ordinary()
		change(&p)
		for v := 1; v <= 2; v++ {
			if _, e := Decode(v, by(v, p.body())); e == api.OK != want || !want && e != api.ErrForm {
				t.Errorf("%s: %d, by version %d", name, e, v)
			}
		}
		checkText(t, p.body())
	}
	checks("as it is", true, func(p *parts) {})
	for n, want := range map[int]bool{0: true, 1: true, 7: true, 8: false, 9: false, 128: false, 1<<32 + 2: false, most: false, most + 1: false} {
		checks(fmt.Sprint("Id ", n), want, func(p *parts) { p.id = number(n) })
	}
	for n, want := range map[int]bool{0: false, 1: true, 127: true, 128: true, most - 1: true, most: true, most + 1: false, 1 << 60: false, math.MaxInt: false} {
		checks(fmt.Sprint("Epoch ", n), want, func(p *parts) { p.epoch = number(n) })
	}
	for n, want := range map[int]bool{0: true, 1: true, 2: false, 3: false, 128: false, 256: false, 257: false, most: false} {
		checks(fmt.Sprint("Frozen ", n), want, func(p *parts) { p.frozen = number(n) })
	}
	for _, n := range []int{0, 1, 3, 4, 20, 21, 130, 258, 1<<32 + 2, most, most + 1, math.MaxInt} { // more than there are, or fewer
		checks(fmt.Sprint("records ", n), false, func(p *parts) { p.records = number(n) })
		checks(fmt.Sprint("replies ", n), false, func(p *parts) { p.replies = number(n) })
		checks(fmt.Sprint("only records ", n), n == 0, func(p *parts) {
			p.records, p.replies, p.table, p.cache = number(n), number(0), nil, nil
		})
		checks(fmt.Sprint("only replies ", n), n == 0, func(p *parts) {
			p.records, p.replies, p.table, p.cache = number(0), number(n), nil, nil
		})
	}
	for n, want := range map[int]bool{19: true, 20: true, 21: false} {
		checks(fmt.Sprint("full of records ", n), want, func(p *parts) {
			p.records, p.table = number(n), nil
			for _, r := range records(n) {
				p.table = append(p.table, sized(wantRecord(r)))
			}
		})
	}
	for n, want := range map[int]bool{7: true, 8: true, 9: false} {
		checks(fmt.Sprint("full of replies ", n), want, func(p *parts) {
			p.replies, p.cache = number(n), nil
			for _, d := range replies(n) {
				p.cache = append(p.cache, wantDone(d))
			}
		})
	}
	checks("records in the wrong order", false, func(p *parts) { slices.Reverse(p.table) })
	checks("a record twice", false, func(p *parts) { p.table[1] = p.table[0] })
	checks("a key twice", false, func(p *parts) { p.table[1] = sized(wantRecord(laden("a", "y", 2))) })
	checks("replies in the wrong order", false, func(p *parts) { slices.Reverse(p.cache) })
	checks("a reply twice", false, func(p *parts) { p.cache[1] = p.cache[0] })
	checks("a client twice", false, func(p *parts) { p.cache[1] = wantDone(last(1, 10, fails(70))) })
	checks("replies ahead of records", false, func(p *parts) { p.table, p.cache = p.cache, p.table })
}

// N4: each number, and each text, of a client's last call at its edges.
func TestDecodeReplies(t *testing.T) {
	for _, c := range []struct {
		cache string
		want  bool
	}{
		{wantDone(last(1, 1, rep(0, ""))), true},
		{wantDone(last(1000, most, rep(most, text(200), text(16), "", "b", "a", text(16)))), true},
		{wantDone(last(0, 1, rep(0, ""))), false},
		{wantDone(last(1001, 1, rep(0, ""))), false},
		{wantDone(last(1, 0, rep(0, ""))), false},
		{wantDone(last(1, most+1, rep(0, ""))), false},
		{wantDone(last(1, 1, fails(255))), true},
		{wantDone(last(1, 1, fails(256))), false},
		{wantDone(last(1, 1, fails(most))), false},
		{wantDone(last(1, 1, rep(most+1, ""))), false},
		{wantDone(last(1, 1, rep(0, text(201)))), false},
		{wantDone(last(1, 1, rep(0, "", text(17)))), false},
		{wantDone(last(1, 1, rep(0, "", make([]string, 5)...))), true},
		{wantDone(last(1, 1, rep(0, "", make([]string, 6)...))), false},
		{"\x01\x01\x00\x00\x01\x00", false},                  // a Value that is all that is left
		{"\x01\x01\x00\x00\x02v\x00", false},                 // one that takes in how many Keys there are
		{"\x01\x01\x00\x00\x00\x01\x01", false},              // a Key that is longer than what is left
		{"\x01\x01\x00\x00\x00\x02\x00", false},              // Keys of which one is not there
		{"\x01\x01\x00\x00" + number(most) + "v\x00", false}, // a length that is much greater than what is left
		{"\x01\x01\x00\x00\x00\x01" + number(most) + "k", false},
		{"\x01\x01\x00\x00\x00" + number(most) + "k", false},
		{"\x01\x01\x00\x00\x00" + number(6) + "\x00\x00\x00\x00\x00\x00", false},
	} {
		body := number(0) + number(1) + "\x00\x00\x01" + c.cache
		for v := 1; v <= 2; v++ {
			if _, e := Decode(v, by(v, body)); e == api.OK != c.want || !c.want && e != api.ErrForm {
				t.Errorf("%q: %d, by version %d", c.cache, e, v)
			}
		}
		checkText(t, body)
	}
}

// N4: a record's bytes: what no version lets be, and what version 1 alone would carry, but what can't be Life or Note.
func TestDecodeRecords(t *testing.T) {
	field := func(tag int, data string) string { return number(tag) + sized(data) }
	eight := ""
	for tag := 6; tag <= 13; tag++ {
		eight += field(tag, text(1000))
	}
	long := "\x01\x01a" + field(4, text(1000)) + field(5, text(967)) + eight
	if r, e := record.Decode(1, long); len(long) != 10000 || len(r.Extra) != 10 || e != api.OK {
		t.Fatal(len(long), e)
	}
	for _, c := range []struct {
		bytes string
		want  bool
	}{
		{"\x01\x01a", true},
		{"\x01\x10" + text(16), true},
		{"\x01\x01a" + field(2, text(200)) + field(3, number(most)) + field(4, number(most)) + field(5, text(40)) + eight, true},
		{"\x01\x01a" + field(6, "") + field(7, ""), true},
		{"", false},
		{"\x02\x01x", false},
		{"\x01\x00", false},
		{"\x01\x11" + text(17), false},
		{"\x01\x01", false},
		{"\x01\x01ab", false},
		{"\x01\x01a\x01\x01a", false},
		{"\x02\x01x\x01\x01a", false},
		{"\x01\x01a" + field(2, ""), false},
		{"\x01\x01a" + field(2, text(201)), false},
		{"\x01\x01a" + field(3, ""), false},
		{"\x01\x01a" + field(3, "\x00"), false},
		{"\x01\x01a" + field(3, "\x81\x00"), false},
		{"\x01\x01a" + field(3, "\x01\x01"), false},
		{"\x01\x01a" + field(3, number(most+1)), false},
		{"\x01\x01a" + field(4, "\x01"), true},
		{"\x01\x01a" + field(4, ""), false},
		{"\x01\x01a" + field(4, "\x00"), false},
		{"\x01\x01a" + field(4, "\x81\x00"), false},
		{"\x01\x01a" + field(4, "\x01\x01"), false},
		{"\x01\x01a" + field(4, number(most+1)), false},
		{"\x01\x01a" + field(5, "n"), true},
		{"\x01\x01a" + field(5, ""), false},
		{"\x01\x01a" + field(5, text(41)), false},
		{"\x01\x01a" + field(7, "") + field(6, ""), false},
		{"\x01\x01a" + field(7, "") + field(7, ""), false},
		{"\x01\x01a" + field(0, ""), false},
		{"\x01\x01a" + field(1000000, ""), true},
		{"\x01\x01a" + field(1000001, ""), false},
		{"\x01\x01a" + field(6, text(1001)), false},
		{"\x01\x01a" + eight + field(14, ""), false},
		{"\x01\x01a" + eight + field(14, text(1000)) + field(15, text(950)), false},
		{long, false},
		{long + field(14, ""), false},
		{"\x01\x01a" + text(10000), false},
	} {
		for _, ahead := range []string{"", sized(wantRecord(laden("A", "x", 1)))} {
			n := 1
			if ahead != "" {
				n = 2
			}
			body := number(0) + number(1) + "\x00" + number(n) + "\x00" + ahead + sized(c.bytes)
			for v := 1; v <= 2; v++ {
				if _, e := Decode(v, by(v, body)); e == api.OK != c.want || !c.want && e != api.ErrForm {
					t.Errorf("%.60q: %d, by version %d", c.bytes, e, v)
				}
			}
			checkText(t, body)
			for _, wrong := range []int{len(c.bytes) + 1, max(len(c.bytes)-1, 0), len(c.bytes) + 128, 1 << 32, most} { // lengths that are not those of the bytes
				if wrong != len(c.bytes) {
					checkText(t, number(0)+number(1)+"\x00"+number(n)+"\x00"+ahead+number(wrong)+c.bytes)
				}
			}
		}
	}
}

// N4: great counts and lengths with little behind them, and much that is none: it ends soon.
func TestDecodeEnds(t *testing.T) {
	begin := time.Now()
	great := number(most)
	huge := strings.Repeat("\x01", 20000000)
	for _, v := range []int{1, 2} {
		letter := string(" st"[v])
		for _, s := range []string{
			"", letter, letter + huge, huge,
			letter + "\x00\x01\x00" + great + great, letter + "\x00\x01\x00" + great + "\x00" + huge, letter + "\x00\x01\x00\x00" + great + huge,
			letter + "\x00\x01\x00\x01\x00" + great + huge, letter + "\x00\x01\x00\x01\x00" + number(len(huge)) + huge,
			letter + "\x00\x01\x00\x00\x01\x01\x01\x00\x00" + number(len(huge)) + huge + "\x00", letter + "\x00\x01\x00\x00\x01\x01\x01\x00\x00\x00" + great + huge,
			letter + "\x00\x01\x00\x00\x01\x01\x01\x00\x00\x00\x01" + number(len(huge)) + huge,
			letter + "\x00\x01\x00\x00\x00" + huge,
			letter + strings.Repeat("\xff", 1000), letter + strings.Repeat("\x80", 1000), strings.Repeat(letter, 1000),
		} {
			if x, e := Decode(v, s); !equal(x, api.Shard{}) || e != api.ErrForm {
				t.Errorf("%.40q: %s, %d", s, say(x), e)
			}
		}
	}
	if spent := time.Since(begin); spent > 20*time.Second {
		t.Errorf("it lasted %s", spent)
	}
}

// N5: texts that look like chance, and shards' bytes that were changed in several places: there is a shard just if these are its bytes.
func TestDecodeChance(t *testing.T) {
	x := uint64(14)
	for range 3000 {
		b := make([]byte, next(&x)%24)
		for i := range b {
			b[i] = byte(next(&x) % []int{2, 4, 256}[next(&x)%3])
		}
		checkText(t, string(b))
		checkText(t, "s"+string(b))
		checkText(t, sealed("t"+string(b)))
	}
	all := shards()
	for range 3000 {
		s := all[next(&x)%len(all)]
		if len(s.Table) > 8 || len(wantBody(s)) > 2000 {
			continue
		}
		b := []byte(wantBody(s))
		for range next(&x)%3 + 1 {
			i := next(&x) % len(b)
			b[i] += byte(next(&x)%5 - 2)
		}
		checkText(t, string(b))
	}
}

// The oracle itself: it tells shards' bytes of others.
func TestWantDecode(t *testing.T) {
	for _, s := range shards() {
		for v := 1; v <= 2; v++ {
			all := by(v, wantBody(s))
			if x, e := wantDecode(v, all); !equal(x, s) || e != 0 {
				t.Errorf("%s: %s, %d", say(s), say(x), e)
			}
			for _, wrong := range []string{all + "\x00", all[:len(all)-1], "x" + all[1:]} {
				if x, e := wantDecode(v, wrong); !equal(x, api.Shard{}) || e != 11 {
					t.Errorf("%.60q: %s, %d", wrong, say(x), e)
				}
			}
		}
	}
}

func FuzzDecode(f *testing.F) {
	for _, s := range shards() {
		if len(wantBody(s)) < 2000 {
			f.Add(wantBody(s))
			f.Add(by(1, wantBody(s)))
			f.Add(by(2, wantBody(s)))
		}
	}
	f.Fuzz(func(t *testing.T, s string) {
		checkText(t, s)
		for _, v := range []int{0, 3} {
			checkDecode(t, v, s, api.Shard{}, api.ErrArg)
		}
	})
}
