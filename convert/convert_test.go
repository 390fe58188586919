package convert

import (
	"fmt"
	"slices"
	"strings"
	"testing"

	"careen/api"
	"careen/record"
	"careen/varint"
)

// pair is a record, by version 1 and by version 2.
type pair struct{ one, two api.Record }

// fields are told by texts: a byte that is the tag, and Data.
func fields(texts ...string) []api.Field {
	var l []api.Field
	for _, s := range texts {
		l = append(l, api.Field{Tag: int(s[0]), Data: s[1:]})
	}
	return l
}

// pairs are written out.
func pairs() []pair {
	note, key, value := strings.Repeat("n", 40), strings.Repeat("k", 16), strings.Repeat("v", 200)
	eight := fields("\x06", "\x07x", "\x08", "\x09y", "\x0a", "\x0b", "\x0c", "\x0d\x00")
	far := []api.Field{{Tag: 1000000, Data: strings.Repeat("z", 1000)}}
	with := func(extra ...string) api.Record { return api.Record{Key: "a", Extra: fields(extra...)} }
	return []pair{
		{api.Record{Key: "a"}, api.Record{Key: "a"}}, // of neither tag
		{api.Record{Key: key, Value: value, Rev: 1 << 53}, api.Record{Key: key, Value: value, Rev: 1 << 53}},
		{with("\x06x"), with("\x06x")},
		{with("\x06", "\x07\x07", "\x7f"), with("\x06", "\x07\x07", "\x7f")},
		{api.Record{Key: "a", Extra: eight}, api.Record{Key: "a", Extra: eight}},
		{api.Record{Key: "a", Extra: far}, api.Record{Key: "a", Extra: far}},

		{with("\x04\x01"), api.Record{Key: "a", Life: 1}}, // of tag 4 alone
		{with("\x04\x07"), api.Record{Key: "a", Life: 7}},
		{with("\x04\x7f"), api.Record{Key: "a", Life: 127}},
		{with("\x04\x80\x01"), api.Record{Key: "a", Life: 128}},
		{with("\x04\x80\x80\x01"), api.Record{Key: "a", Life: 16384}},
		{with("\x04\xff\xff\xff\xff\xff\xff\xff\x0f"), api.Record{Key: "a", Life: 1<<53 - 1}},
		{with("\x04\x80\x80\x80\x80\x80\x80\x80\x10"), api.Record{Key: "a", Life: 1 << 53}},
		{with("\x04\x01", "\x06x", "\x07"), api.Record{Key: "a", Life: 1, Extra: fields("\x06x", "\x07")}},

		{with("\x05n"), api.Record{Key: "a", Note: "n"}}, // of tag 5 alone
		{with("\x05\x00"), api.Record{Key: "a", Note: "\x00"}},
		{with("\x05\xff\x80"), api.Record{Key: "a", Note: "\xff\x80"}},
		{with("\x05" + note), api.Record{Key: "a", Note: note}},
		{with("\x05hi", "\x09"), api.Record{Key: "a", Note: "hi", Extra: fields("\x09")}},
		{with("\x05\x04", "\x06\x05"), api.Record{Key: "a", Note: "\x04", Extra: fields("\x06\x05")}},

		{with("\x04\x07", "\x05n"), api.Record{Key: "a", Life: 7, Note: "n"}}, // of both
		{with("\x04\x07", "\x05\x07", "\x06x"), api.Record{Key: "a", Life: 7, Note: "\x07", Extra: fields("\x06x")}},
		{
			api.Record{Key: key, Value: value, Rev: 9, Extra: append(fields("\x04\x80\x80\x80\x80\x80\x80\x80\x10", "\x05"+note), eight...)},
			api.Record{Key: key, Value: value, Rev: 9, Life: 1 << 53, Note: note, Extra: eight},
		},
		{
			api.Record{Key: "a", Value: "b", Rev: 1, Extra: append(fields("\x04\x01", "\x05n"), far...)},
			api.Record{Key: "a", Value: "b", Rev: 1, Life: 1, Note: "n", Extra: far},
		},
	}
}

// wrongLives are Data of tag 4 that may not be so.
func wrongLives() []string {
	return []string{
		"", "\x00", // empty, those of 0
		"\x80", "\xff\xff", "\x80\x80\x80\x80\x80\x80\x80", // no number's: cut off
		"\x80\x00", "\x81\x80\x00", // no number's: more bytes than it has
		"\x81\x80\x80\x80\x80\x80\x80\x10", "\xff\xff\xff\xff\xff\xff\xff\xff", "\x80\x80\x80\x80\x80\x80\x80\x80\x01", // no number's: too great
		"\x01\x01", "\x01\x00", "\x00\x00", "\x00\x01", "\x80\x01\x80", "\x07x", "\x80\x80\x80\x80\x80\x80\x80\x10\x00", // more behind it
		strings.Repeat("\x01", 40), strings.Repeat("\x01", 41), strings.Repeat("\x01", 1000),
	}
}

// wrongNotes are Data of tag 5 that may not be so.
func wrongNotes() []string {
	return []string{"", strings.Repeat("n", 41), strings.Repeat("\x00", 42), strings.Repeat("n", 128), strings.Repeat("n", 1000)}
}

// notRight are records that are right by neither version.
func notRight() []api.Record {
	return []api.Record{
		{},
		{Value: "b", Rev: 1},
		{Key: strings.Repeat("k", 17)},
		{Key: "a", Value: strings.Repeat("v", 201)},
		{Key: "a", Rev: -1},
		{Key: "a", Rev: 1<<53 + 1},
		{Key: "a", Life: -1},
		{Key: "a", Life: 1<<53 + 1},
		{Key: "a", Note: strings.Repeat("n", 41)},
		{Key: "a", Extra: fields("\x00")},
		{Key: "a", Extra: fields("\x01a")},
		{Key: "a", Extra: fields("\x02b")},
		{Key: "a", Extra: fields("\x03\x01")},
		{Key: "a", Extra: []api.Field{{Tag: -1}}},
		{Key: "a", Extra: []api.Field{{Tag: 1000001}}},
		{Key: "a", Extra: fields("\x06", "\x06")},
		{Key: "a", Extra: fields("\x07", "\x06")},
		{Key: "a", Extra: fields("\x05n", "\x04\x07")},
		{Key: "a", Extra: fields("\x04\x07", "\x04\x07")},
		{Key: "a", Extra: fields("\x06" + strings.Repeat("x", 1001))},
		{Key: "a", Extra: fields("\x06", "\x07", "\x08", "\x09", "\x0a", "\x0b", "\x0c", "\x0d", "\x0e")},
		{Key: "a", Life: 1, Extra: fields("\x04\x07")},
		{Key: "a", Note: "n", Extra: fields("\x05n")},
		{Key: "a", Life: 1, Extra: fields("\x05n")},
	}
}

// versions are those that there are, and others.
func versions() []int {
	return []int{1, 2, 0, 3, -1, 1<<63 - 1, -1 << 63, 1<<32 + 1, 257, 258}
}

// wantUp is promise D1 by its words.
func wantUp(r api.Record) (api.Record, api.Errno) {
	if !record.Right(1, r) {
		return api.Record{}, api.ErrArg
	}
	want := api.Record{Key: r.Key, Value: r.Value, Rev: r.Rev}
	for _, f := range r.Extra {
		switch {
		case f.Tag == 4:
			n, k, e := varint.Take(f.Data)
			if f.Data == "" || e != api.OK || n == 0 || k < len(f.Data) {
				return api.Record{}, api.ErrKnown
			}
			want.Life = n
		case f.Tag == 5:
			if f.Data == "" || len(f.Data) > 40 {
				return api.Record{}, api.ErrKnown
			}
			want.Note = f.Data
		default:
			want.Extra = append(want.Extra, f)
		}
	}
	return want, api.OK
}

// wantDown is promise D2 by its words.
func wantDown(r api.Record) (api.Record, api.Errno) {
	if !record.Right(2, r) {
		return api.Record{}, api.ErrArg
	}
	want := api.Record{Key: r.Key, Value: r.Value, Rev: r.Rev, Extra: slices.Clone(r.Extra)}
	if r.Note != "" {
		want.Extra = slices.Insert(want.Extra, 0, api.Field{Tag: 5, Data: r.Note})
	}
	if r.Life != 0 {
		s, _ := varint.Put(r.Life)
		want.Extra = slices.Insert(want.Extra, 0, api.Field{Tag: 4, Data: s})
	}
	return want, api.OK
}

// wantTo is promise D3 by its words.
func wantTo(from, to int, r api.Record) (api.Record, api.Errno) {
	if from != 1 && from != 2 || to != 1 && to != 2 || !record.Right(from, r) {
		return api.Record{}, api.ErrArg
	}
	if from == to {
		return r, api.OK
	}
	if from == 1 {
		return wantUp(r)
	}
	return wantDown(r)
}

// equal tells whether two records are the same, without the layer below.
func equal(a, b api.Record) bool {
	return a.Key == b.Key && a.Value == b.Value && a.Rev == b.Rev && a.Life == b.Life && a.Note == b.Note && slices.Equal(a.Extra, b.Extra)
}

// show is what stands in a test's message of a record.
func show(r api.Record) string {
	return fmt.Sprintf("{%q %q %d %d %q %q}", r.Key, r.Value, r.Rev, r.Life, r.Note, fmt.Sprint(r.Extra))
}

// check holds an answer against the one that is wanted.
func check(t *testing.T, call string, handed, r api.Record, e api.Errno, want api.Record, wantE api.Errno) {
	t.Helper()
	if !equal(r, want) || e != wantE {
		t.Errorf("%s of %s: %s, %d; want %s, %d", call, show(handed), show(r), e, show(want), wantE)
	}
}

func checkUp(t *testing.T, r, want api.Record, wantE api.Errno) {
	t.Helper()
	got, e := Up(r)
	check(t, "Up", r, got, e, want, wantE)
}

func checkDown(t *testing.T, r, want api.Record, wantE api.Errno) {
	t.Helper()
	got, e := Down(r)
	check(t, "Down", r, got, e, want, wantE)
}

func checkTo(t *testing.T, from, to int, r, want api.Record, wantE api.Errno) {
	t.Helper()
	got, e := To(from, to, r)
	check(t, fmt.Sprintf("To(%d, %d)", from, to), r, got, e, want, wantE)
}

// checkWords holds all calls against the words, and against the theorem.
func checkWords(t *testing.T, r api.Record) {
	t.Helper()
	up, e := wantUp(r)
	checkUp(t, r, up, e)
	if e == api.OK {
		checkDown(t, up, r, api.OK)
	}
	down, e := wantDown(r)
	checkDown(t, r, down, e)
	if e == api.OK {
		checkUp(t, down, r, api.OK)
	}
	for _, from := range versions()[:4] {
		for _, to := range versions()[:4] {
			want, e := wantTo(from, to, r)
			checkTo(t, from, to, r, want, e)
		}
	}
}

// D1: records of version 1, by version 2.
func TestUp(t *testing.T) {
	for _, p := range pairs() {
		checkUp(t, p.one, p.two, api.OK)
		if r, _ := Up(p.one); !record.Right(2, r) {
			t.Errorf("Up of %s is not right by version 2", show(p.one))
		}
	}
}

// D1: what is not right by version 1 is refused, what is right by version 2 alone, too.
func TestUpNotRight(t *testing.T) {
	for _, r := range notRight() {
		checkUp(t, r, api.Record{}, api.ErrArg)
	}
	checkUp(t, api.Record{Key: "a", Life: 1}, api.Record{}, api.ErrArg)
	checkUp(t, api.Record{Key: "a", Note: "n"}, api.Record{}, api.ErrArg)
	checkUp(t, api.Record{Key: "a", Life: 1 << 53, Note: "n", Extra: fields("\x06")}, api.Record{}, api.ErrArg)
}

// D1: a carried field of tag 4 or 5 that may not be a Life or a Note is refused, alone and with others about it.
func TestUpKnown(t *testing.T) {
	for _, data := range wrongLives() {
		for _, behind := range [][]string{nil, {"\x05n"}, {"\x06"}, {"\x05n", "\x06x", "\x07"}, {"\x05"}} {
			checkUp(t, api.Record{Key: "a", Value: "b", Rev: 1, Extra: fields(append([]string{"\x04" + data}, behind...)...)}, api.Record{}, api.ErrKnown)
		}
	}
	for _, data := range wrongNotes() {
		for _, behind := range [][]string{nil, {"\x06"}, {"\x07x", "\x08"}} {
			l := append([]string{"\x05" + data}, behind...)
			checkUp(t, api.Record{Key: "a", Value: "b", Rev: 1, Extra: fields(l...)}, api.Record{}, api.ErrKnown)
			checkUp(t, api.Record{Key: "a", Extra: fields(append([]string{"\x04\x07"}, l...)...)}, api.Record{}, api.ErrKnown)
		}
	}
}

// D1: that a record is not right is told ahead of what is wrong with a carried field.
func TestUpFirstError(t *testing.T) {
	for _, l := range [][]api.Field{fields("\x04"), fields("\x04\x00"), fields("\x05"), fields("\x05" + strings.Repeat("n", 41))} {
		checkUp(t, api.Record{Key: "a", Extra: l}, api.Record{}, api.ErrKnown)
		checkUp(t, api.Record{Extra: l}, api.Record{}, api.ErrArg)
		checkUp(t, api.Record{Key: "a", Life: 1, Extra: l}, api.Record{}, api.ErrArg)
		checkUp(t, api.Record{Key: "a", Extra: append(l, l...)}, api.Record{}, api.ErrArg)
	}
}

// D1: all Data of at most two bytes.
func TestUpShortData(t *testing.T) {
	texts := []string{""}
	for i := range 256 {
		texts = append(texts, string([]byte{byte(i)}))
		for j := range 256 {
			texts = append(texts, string([]byte{byte(i), byte(j)}))
		}
	}
	for _, data := range texts {
		for _, tag := range []int{4, 5, 6} {
			r := api.Record{Key: "a", Extra: []api.Field{{Tag: tag, Data: data}}}
			want, e := wantUp(r)
			checkUp(t, r, want, e)
		}
	}
}

// D2: records of version 2, by version 1.
func TestDown(t *testing.T) {
	for _, p := range pairs() {
		checkDown(t, p.two, p.one, api.OK)
		if r, _ := Down(p.two); !record.Right(1, r) {
			t.Errorf("Down of %s is not right by version 1", show(p.two))
		}
	}
}

// D2: what is not right by version 2 is refused, what is right by version 1 alone, too.
func TestDownNotRight(t *testing.T) {
	for _, r := range notRight() {
		checkDown(t, r, api.Record{}, api.ErrArg)
	}
	for _, l := range [][]api.Field{fields("\x04\x07"), fields("\x04"), fields("\x05n"), fields("\x05"), fields("\x04\x07", "\x05n", "\x06")} {
		checkDown(t, api.Record{Key: "a", Extra: l}, api.Record{}, api.ErrArg)
	}
}

// D2: Life and Note at their edges.
func TestDownEdges(t *testing.T) {
	for _, life := range []int{-1 << 63, -1, 0, 1, 127, 128, 1<<53 - 1, 1 << 53, 1<<53 + 1, 1<<63 - 1} {
		for _, size := range []int{0, 1, 39, 40, 41, 200} {
			for _, extra := range [][]api.Field{nil, {}, fields("\x06"), fields("\x06x", "\x09")} {
				r := api.Record{Key: "a", Life: life, Note: strings.Repeat("n", size), Extra: extra}
				want, e := wantDown(r)
				if (e == api.OK) != (life >= 0 && life <= 1<<53 && size <= 40) {
					t.Fatalf("Life %d, %d bytes of Note: %d", life, size, e)
				}
				checkDown(t, r, want, e)
			}
		}
	}
}

// D3: from each version to each one, the same too.
func TestTo(t *testing.T) {
	for _, p := range pairs() {
		checkTo(t, 1, 2, p.one, p.two, api.OK)
		checkTo(t, 2, 1, p.two, p.one, api.OK)
		checkTo(t, 1, 1, p.one, p.one, api.OK)
		checkTo(t, 2, 2, p.two, p.two, api.OK)
	}
}

// D3: to the same version, carried fields stay as they are, those that may not be a Life or a Note too.
func TestToTheSame(t *testing.T) {
	for _, data := range wrongLives() {
		r := api.Record{Key: "a", Extra: fields("\x04"+data, "\x05", "\x06")}
		checkTo(t, 1, 1, r, r, api.OK)
		checkTo(t, 1, 2, r, api.Record{}, api.ErrKnown)
		checkTo(t, 2, 2, r, api.Record{}, api.ErrArg)
		checkTo(t, 2, 1, r, api.Record{}, api.ErrArg)
	}
	for _, data := range wrongNotes() {
		r := api.Record{Key: "a", Extra: fields("\x05" + data)}
		checkTo(t, 1, 1, r, r, api.OK)
		checkTo(t, 1, 2, r, api.Record{}, api.ErrKnown)
	}
}

// D3: versions that are none are refused, the same twice too, ahead of what is wrong with a carried field.
func TestToVersions(t *testing.T) {
	for _, r := range []api.Record{{Key: "a"}, {Key: "a", Life: 1}, {Key: "a", Extra: fields("\x04\x07")}, {Key: "a", Extra: fields("\x04")}, {}} {
		for _, from := range versions() {
			for _, to := range versions()[2:] {
				checkTo(t, from, to, r, api.Record{}, api.ErrArg)
				checkTo(t, to, from, r, api.Record{}, api.ErrArg)
			}
		}
	}
}

// D3: what is not right by the version that it comes from is refused, to the same one too.
func TestToNotRight(t *testing.T) {
	for _, r := range notRight() {
		for _, v := range []int{1, 2} {
			checkTo(t, v, 1, r, api.Record{}, api.ErrArg)
			checkTo(t, v, 2, r, api.Record{}, api.ErrArg)
		}
	}
	for _, to := range []int{1, 2} {
		checkTo(t, 1, to, api.Record{Key: "a", Life: 1}, api.Record{}, api.ErrArg)
		checkTo(t, 1, to, api.Record{Key: "a", Note: "n"}, api.Record{}, api.ErrArg)
		checkTo(t, 2, to, api.Record{Key: "a", Extra: fields("\x04\x07")}, api.Record{}, api.ErrArg)
		checkTo(t, 2, to, api.Record{Key: "a", Extra: fields("\x05n")}, api.Record{}, api.ErrArg)
	}
}

// D1 to D4: all edges with one another.
func TestCrossed(t *testing.T) {
	note := strings.Repeat("n", 40)
	texts := func(tag string, l ...string) (all [][]string) {
		all = append(all, nil)
		for _, data := range l {
			all = append(all, []string{tag + data})
		}
		return all
	}
	for _, four := range texts("\x04", append(wrongLives(), "\x01", "\x80\x01", "\x80\x80\x80\x80\x80\x80\x80\x10")...) {
		for _, five := range texts("\x05", append(wrongNotes(), "n", note)...) {
			for _, others := range [][]string{nil, {"\x06"}, {"\x06x", "\x07", "\x7f\x00"}, {"\x07", "\x06"}, {"\x03"}} {
				for _, life := range []int{-1, 0, 1, 1 << 53, 1<<53 + 1} {
					for _, n := range []string{"", "n", note, note + "n"} {
						checkWords(t, api.Record{Key: "a", Value: "b", Rev: 3, Life: life, Note: n, Extra: fields(slices.Concat(four, five, others)...)})
					}
				}
			}
		}
	}
}

// D4: Down undoes Up, and Up undoes Down; the bytes of a record and of what it becomes, each by its version, are the same.
func TestThereAndBack(t *testing.T) {
	for _, p := range pairs() {
		up, _ := Up(p.one)
		checkDown(t, up, p.one, api.OK)
		down, _ := Down(p.two)
		checkUp(t, down, p.two, api.OK)
		checkBytes(t, p.one, up)
		checkBytes(t, down, p.two)
	}
}

// checkBytes holds the bytes of a record of version 1 against those of one of version 2.
func checkBytes(t *testing.T, one, two api.Record) {
	t.Helper()
	s1, e1 := record.Encode(1, one)
	s2, e2 := record.Encode(2, two)
	if s1 != s2 || e1 != api.OK || e2 != api.OK || s1 == "" {
		t.Errorf("%s has the bytes %q, %d; %s has %q, %d", show(one), s1, e1, show(two), s2, e2)
	}
}

// D4: what one version wrote and the other one read is what the conversion makes of it.
func TestReadByTheOther(t *testing.T) {
	for _, p := range pairs() {
		s, _ := record.Encode(1, p.one)
		two, e := record.Decode(2, s)
		checkUp(t, p.one, two, e)
		s, _ = record.Encode(2, p.two)
		one, e := record.Decode(1, s)
		checkDown(t, p.two, one, e)
	}
	for _, data := range wrongLives() {
		r := api.Record{Key: "a", Extra: fields("\x04"+data, "\x05n")}
		s, _ := record.Encode(1, r)
		_, e := record.Decode(2, s)
		checkUp(t, r, api.Record{}, e)
	}
}

// R3: what is handed in is as it was, behind its length, too.
func TestHandedInAsItWas(t *testing.T) {
	for _, ahead := range [][]api.Field{nil, fields("\x04\x07"), fields("\x05n"), fields("\x04\x07", "\x05n"), fields("\x04")} {
		for n := range 3 {
			l := append(slices.Clone(ahead), fields("\x06x", "\x07", "\x08y", "\x09", "\x0az")...)
			was := slices.Clone(l)
			r := api.Record{Key: "a", Value: "b", Rev: 1, Extra: l[:len(ahead)+n]}
			Up(r)
			Down(r)
			for _, from := range versions()[:4] {
				To(from, 1, r)
				To(from, 2, r)
			}
			r.Life, r.Note = 5, "m"
			Down(r)
			To(2, 1, r)
			To(2, 2, r)
			if !slices.Equal(l, was) {
				t.Errorf("%v became %v", was, l)
			}
		}
	}
}

// calls are the ways in which an answer comes to be, by what is handed in.
func calls() []func(r api.Record) (api.Record, api.Errno) {
	return []func(r api.Record) (api.Record, api.Errno){
		Up,
		Down,
		func(r api.Record) (api.Record, api.Errno) { return To(1, 1, r) },
		func(r api.Record) (api.Record, api.Errno) { return To(2, 2, r) },
		func(r api.Record) (api.Record, api.Errno) { return To(1, 2, r) },
		func(r api.Record) (api.Record, api.Errno) { return To(2, 1, r) },
	}
}

// R3: an answer shares nothing with what was handed in, nor with another answer, spare room neither.
func TestAnswersAreNew(t *testing.T) {
	records := []api.Record{
		{Key: "a", Extra: make([]api.Field, 0, 4)},
		{Key: "a", Life: 1, Note: "n", Extra: make([]api.Field, 0, 4)},
	}
	for _, l := range [][]api.Field{fields("\x04\x07", "\x05n"), fields("\x04\x07", "\x06"), fields("\x06x", "\x07", "\x08")} {
		records = append(records, api.Record{Key: "a", Extra: append(make([]api.Field, 0, 9), l...)}, api.Record{Key: "a", Life: 1, Extra: append(make([]api.Field, 0, 9), l...)})
	}
	for i, r := range records {
		for j, call := range calls() {
			was := slices.Clone(r.Extra[:cap(r.Extra)])
			a, e := call(r)
			want := slices.Clone(a.Extra)
			b, _ := call(r)
			b.Extra = append(b.Extra, api.Field{Tag: 99})
			a.Extra = append(a.Extra, api.Field{Tag: 77})
			clear(b.Extra[:cap(b.Extra)])
			if !slices.Equal(a.Extra, append(want, api.Field{Tag: 77})) {
				t.Errorf("record %d, call %d: %v, %d; want %v", i, j, a.Extra, e, want)
			}
			clear(a.Extra[:cap(a.Extra)])
			if !slices.Equal(was, r.Extra[:cap(r.Extra)]) {
				t.Errorf("record %d, call %d: what was handed in is %v; was %v", i, j, r.Extra[:cap(r.Extra)], was)
			}
		}
	}
}

// R3: what is written into what was handed in changes no answer.
func TestNothingIsKept(t *testing.T) {
	for j, call := range calls() {
		l := fields("\x06x", "\x07y")
		a, e := call(api.Record{Key: "a", Extra: l})
		clear(l)
		if !slices.Equal(a.Extra, fields("\x06x", "\x07y")) || e != api.OK {
			t.Errorf("call %d: %v, %d", j, a.Extra, e)
		}
	}
}

func FuzzConvert(f *testing.F) {
	f.Add("a", "b", 1, 0, "", 4, "\x07", 5, "n", 6, "x")
	f.Add("a", "b", 1<<53, 1<<53, "n", 6, "x", 7, "y", 8, "")
	f.Add("a", "", 0, 0, "", 4, "\x00", 5, "", 0, "")
	f.Add("", "", -1, -1, "", 1, "", 0, "", 0, "")
	f.Fuzz(func(t *testing.T, key, value string, rev, life int, note string, tag1 int, data1 string, tag2 int, data2 string, tag3 int, data3 string) {
		l := []api.Field{{Tag: tag1, Data: data1}, {Tag: tag2, Data: data2}, {Tag: tag3, Data: data3}}
		for k := range 4 {
			checkWords(t, api.Record{Key: key, Value: value, Rev: rev, Extra: l[:k]})
			checkWords(t, api.Record{Key: key, Value: value, Rev: rev, Life: life, Note: note, Extra: l[:k]})
		}
	})
}
