package wire

import (
	"fmt"
	"math"
	"slices"
	"strings"
	"testing"

	"careen/api"
	"careen/field"
)

// pair is a message, and the bytes that it has by a version.
type pair struct {
	version int
	msg     api.Msg
	bytes   string
}

// both are the pairs of a message that either version may say: the bytes but the first one are the same.
func both(m api.Msg, s string) []pair {
	return []pair{{1, m, "\x01" + s}, {2, m, "\x02" + s}}
}

// pairs are written out, or, where they are long, built of what is written out.
func pairs() []pair {
	const most = "\x08\x80\x80\x80\x80\x80\x80\x80\x10" // 2^53, and how many bytes that has
	body := strings.Repeat("b", 1000)
	l := slices.Concat(
		both(api.Msg{Kind: 1}, "\x01\x01\x01"),
		both(api.Msg{Kind: 9}, "\x01\x01\x09"),
		both(api.Msg{Kind: 1, From: 2, To: 3, Body: "x"}, "\x01\x01\x01\x02\x01\x02\x03\x01\x03\x05\x01x"),
		both(api.Msg{Kind: 5, From: 1}, "\x01\x01\x05\x02\x01\x01"),
		both(api.Msg{Kind: 5, To: 1}, "\x01\x01\x05\x03\x01\x01"),
		both(api.Msg{Kind: 5, Seq: 1}, "\x01\x01\x05\x04\x01\x01"),
		both(api.Msg{Kind: 5, From: 127, To: 128, Seq: 300}, "\x01\x01\x05\x02\x01\x7f\x03\x02\x80\x01\x04\x02\xac\x02"),
		both(api.Msg{Kind: 5, Body: "\x00"}, "\x01\x01\x05\x05\x01\x00"),
		both(api.Msg{Kind: 5, Body: "\xff\x80é\n"}, "\x01\x01\x05\x05\x05\xff\x80\xc3\xa9\n"),
		both(api.Msg{Kind: 5, Body: "\x01\x01\x01\x01"}, "\x01\x01\x05\x05\x04\x01\x01\x01\x01"),
		both(api.Msg{Kind: 5, Body: body}, "\x01\x01\x05\x05\xe8\x07"+body),
		both(api.Msg{Kind: 9, From: 1 << 53, To: 1 << 53, Seq: 1 << 53, Body: body}, "\x01\x01\x09\x02"+most+"\x03"+most+"\x04"+most+"\x05\xe8\x07"+body),
		both(api.Msg{Kind: 2, Seq: 1<<53 - 1}, "\x01\x01\x02\x04\x08\xff\xff\xff\xff\xff\xff\xff\x0f"),
	)
	return append(l, []pair{
		{2, api.Msg{Kind: 10}, "\x02\x01\x01\x0a"},
		{2, api.Msg{Kind: 20}, "\x02\x01\x01\x14"},
		{2, api.Msg{Kind: 1, Trace: 1}, "\x02\x01\x01\x01\x06\x01\x01"},
		{2, api.Msg{Kind: 9, Trace: 128}, "\x02\x01\x01\x09\x06\x02\x80\x01"},
		{2, api.Msg{Kind: 9, Trace: 1 << 53}, "\x02\x01\x01\x09\x06" + most},
		{2, api.Msg{Kind: 20, From: 1, To: 2, Seq: 3, Body: "hi", Trace: 4}, "\x02\x01\x01\x14\x02\x01\x01\x03\x01\x02\x04\x01\x03\x05\x02hi\x06\x01\x04"},
		{2, api.Msg{Kind: 20, From: 1 << 53, To: 1 << 53, Seq: 1 << 53, Body: body, Trace: 1 << 53}, "\x02\x01\x01\x14\x02" + most + "\x03" + most + "\x04" + most + "\x05\xe8\x07" + body + "\x06" + most},
	}...)
}

// versions are the two that there are, and those that are none.
func versions() []int {
	return []int{1, 2, 0, 3, -1, -2, 4, 256, 257, 258, 1 << 32, 1<<32 + 1, 1<<32 + 2, math.MaxInt, math.MinInt, math.MinInt + 1, math.MinInt + 2}
}

// numbers are those at which a number becomes one that may not be, and those that might be taken for others.
func numbers() []int {
	return []int{-1, 0, 1, 2, 127, 128, 1<<53 - 1, 1 << 53, 1<<53 + 1, 1<<53 + 2, 1 << 54, 1 << 62, -2, -1 << 53, -1<<53 - 1, math.MaxInt, math.MinInt, math.MinInt + 1}
}

// kinds are those at which a kind becomes one that may not be by one of the versions, and those that might be taken for others.
func kinds() []int {
	l := []int{-1 << 53, 127, 128, 255, 256, 257, 265, 1 << 32, 1<<32 + 1, 1 << 53, math.MaxInt, math.MinInt, math.MinInt + 1}
	for k := -3; k <= 23; k++ {
		l = append(l, k)
	}
	return l
}

// bodies are of so many bytes as may be, and of more.
func bodies() []string {
	l := []string{"", "x", "\x00", "\xff\xfe", "日本"}
	for _, n := range []int{127, 128, 255, 256, 999, 1000, 1001, 1002, 1024, 10000, 100000} {
		l = append(l, strings.Repeat("b", n))
	}
	return append(l, strings.Repeat("é", 500), strings.Repeat("é", 500)+"x", strings.Repeat("日", 334))
}

// messages have each field in turn at each of its edges, beside others that may be, and many of the edges together.
func messages() []api.Msg {
	var l []api.Msg
	for _, m := range []api.Msg{{Kind: 1}, {Kind: 9, From: 1, To: 2, Seq: 3, Body: "x"}, {Kind: 10}, {Kind: 1, Trace: 5}, {Kind: 20, Body: "y", Trace: 1 << 53}, {Kind: 21}, {}, {Kind: 1, Trace: -1}} {
		l = append(l, m)
		for _, n := range numbers() {
			for _, set := range []func(m *api.Msg){
				func(m *api.Msg) { m.From = n }, func(m *api.Msg) { m.To = n }, func(m *api.Msg) { m.Seq = n }, func(m *api.Msg) { m.Trace = n },
			} {
				x := m
				set(&x)
				l = append(l, x)
			}
		}
		for _, k := range kinds() {
			x := m
			x.Kind = k
			l = append(l, x)
		}
		for _, s := range bodies() {
			x := m
			x.Body = s
			l = append(l, x)
		}
	}
	return append(l, mixed()...)
}

// mixed are messages of edges in all fields at once.
func mixed() []api.Msg {
	var l []api.Msg
	edges := []int{-1, 0, 1 << 53, 1<<53 + 1}
	for _, kind := range []int{0, 1, 9, 10, 20, 21} {
		for _, from := range edges {
			for _, to := range edges {
				for _, seq := range edges {
					for _, size := range []int{0, 1, 1000, 1001} {
						for _, trace := range []int{-1, 0, 1, 1 << 53, 1<<53 + 1} {
							l = append(l, api.Msg{Kind: kind, From: from, To: to, Seq: seq, Body: strings.Repeat("b", size), Trace: trace})
						}
					}
				}
			}
		}
	}
	return l
}

// wantRight is promise H1 by its words.
func wantRight(v int, m api.Msg) bool {
	for _, n := range []int{m.From, m.To, m.Seq} {
		if n < 0 || n > 9007199254740992 {
			return false
		}
	}
	if len(m.Body) > 1000 || m.Kind < 1 {
		return false
	}
	if v == 1 {
		return m.Kind < 10 && m.Trace == 0
	}
	return v == 2 && m.Kind < 21 && m.Trace >= 0 && m.Trace <= 9007199254740992
}

// wantNumber is the bytes of a number above 0, by chapter 1's words; none of 0.
func wantNumber(n int) string {
	var b []byte
	for ; n > 0; n /= 128 {
		if len(b) > 0 {
			b[len(b)-1] += 128
		}
		b = append(b, byte(n%128))
	}
	return string(b)
}

// wantEncode is promise H2 by its words.
func wantEncode(v int, m api.Msg) (string, api.Errno) {
	switch {
	case !wantRight(v, m) && v == 1 && wantRight(2, m):
		return "", 22
	case !wantRight(v, m):
		return "", 1
	}
	s := string([]byte{byte(v)})
	for i, data := range []string{wantNumber(m.Kind), wantNumber(m.From), wantNumber(m.To), wantNumber(m.Seq), m.Body, wantNumber(m.Trace)} {
		if data != "" {
			s += string([]byte{byte(i + 1)}) + wantSize(len(data)) + data
		}
	}
	return s, 0
}

// wantSize is the bytes of a number that may be 0.
func wantSize(n int) string {
	if n == 0 {
		return "\x00"
	}
	return wantNumber(n)
}

// wantAbove is the number above 0 whose bytes a text is, by chapter 1's words; 0: it is none's.
func wantAbove(data string) int {
	n := 0
	for i := len(data) - 1; i >= 0; i-- {
		if n > 1<<53 {
			return 0
		}
		n = n*128 + int(data[i])%128
	}
	if n > 1<<53 || wantNumber(n) != data {
		return 0
	}
	return n
}

// wantDecode is promise H3 by its words.
func wantDecode(s string) (int, api.Msg, api.Errno) {
	if s == "" || s[0] != 1 && s[0] != 2 {
		return 0, api.Msg{}, 22
	}
	v := int(s[0])
	l, e := field.Decode(s[1:])
	if e != 0 {
		return 0, api.Msg{}, e
	}
	var m api.Msg
	for _, f := range l {
		if f.Tag > 6 || v == 1 && f.Tag > 5 || f.Data == "" || f.Tag != 5 && wantAbove(f.Data) == 0 {
			return 0, api.Msg{}, 21
		}
		switch f.Tag {
		case 1:
			m.Kind = wantAbove(f.Data)
		case 2:
			m.From = wantAbove(f.Data)
		case 3:
			m.To = wantAbove(f.Data)
		case 4:
			m.Seq = wantAbove(f.Data)
		case 5:
			m.Body = f.Data
		case 6:
			m.Trace = wantAbove(f.Data)
		}
	}
	if !wantRight(v, m) {
		return 0, api.Msg{}, 21
	}
	return v, m, 0
}

// brief tells a text, and how long it is.
func brief(s string) string {
	if len(s) <= 40 {
		return fmt.Sprintf("%q", s)
	}
	return fmt.Sprintf("%.30q.. of %d bytes", s, len(s))
}

// briefly tells a message.
func briefly(m api.Msg) string {
	return fmt.Sprintf("{%d %d %d %d %s %d}", m.Kind, m.From, m.To, m.Seq, brief(m.Body), m.Trace)
}

func checkRight(t *testing.T, v int, m api.Msg, want bool) {
	t.Helper()
	if Right(v, m) != want {
		t.Errorf("Right(%d, %s) = %v; want %v", v, briefly(m), !want, want)
	}
}

func checkEncode(t *testing.T, v int, m api.Msg, want string, wantE api.Errno) {
	t.Helper()
	if s, e := Encode(v, m); s != want || e != wantE {
		t.Errorf("Encode(%d, %s) = %s, %d; want %s, %d", v, briefly(m), brief(s), e, brief(want), wantE)
	}
}

func checkDecode(t *testing.T, s string, wantV int, want api.Msg, wantE api.Errno) {
	t.Helper()
	if v, m, e := Decode(s); v != wantV || m != want || e != wantE {
		t.Errorf("Decode(%s) = %d, %s, %d; want %d, %s, %d", brief(s), v, briefly(m), e, wantV, briefly(want), wantE)
	}
}

// checkErr holds Decode to an error, with nothing beside it.
func checkErr(t *testing.T, s string, want api.Errno) {
	t.Helper()
	checkDecode(t, s, 0, api.Msg{}, want)
}

// checkBytes holds Decode against the words, and what it answers against H4.
func checkBytes(t *testing.T, s string) {
	t.Helper()
	v, m, e := wantDecode(s)
	checkDecode(t, s, v, m, e)
	if e != api.OK {
		return
	}
	checkRight(t, v, m, true)
	checkEncode(t, v, m, s, api.OK)
	if v == 1 {
		checkDecode(t, "\x02"+s[1:], 2, m, api.OK)
	}
}

// checkMessage holds Right and Encode against the words, and what they answer against H4.
func checkMessage(t *testing.T, v int, m api.Msg) {
	t.Helper()
	s, e := wantEncode(v, m)
	checkRight(t, v, m, wantRight(v, m))
	checkEncode(t, v, m, s, e)
	if e != api.OK {
		return
	}
	checkDecode(t, s, v, m, api.OK)
	if v == 1 {
		checkEncode(t, 2, m, "\x02"+s[1:], api.OK)
	}
}

// The chapter's example, byte by byte.
func TestExample(t *testing.T) {
	m := api.Msg{Kind: 1, From: 2, To: 3, Body: "x"}
	s := string([]byte{1, 1, 1, 1, 2, 1, 2, 3, 1, 3, 5, 1, 120})
	checkRight(t, 1, m, true)
	checkEncode(t, 1, m, s, api.OK)
	checkDecode(t, s, 1, m, api.OK)
	s = string([]byte{2, 1, 1, 1, 2, 1, 2, 3, 1, 3, 5, 1, 120})
	checkRight(t, 2, m, true)
	checkEncode(t, 2, m, s, api.OK)
	checkDecode(t, s, 2, m, api.OK)
}

// H1, H2, H3, H4: messages, and their bytes, written out.
func TestWrittenOut(t *testing.T) {
	for _, p := range pairs() {
		checkRight(t, p.version, p.msg, true)
		checkEncode(t, p.version, p.msg, p.bytes, api.OK)
		checkDecode(t, p.bytes, p.version, p.msg, api.OK)
	}
}

// H1: Kind, by each version.
func TestRightKind(t *testing.T) {
	for k := -3; k <= 30; k++ {
		checkRight(t, 1, api.Msg{Kind: k}, k >= 1 && k <= 9)
		checkRight(t, 2, api.Msg{Kind: k}, k >= 1 && k <= 20)
		checkRight(t, 2, api.Msg{Kind: k, Trace: 1}, k >= 1 && k <= 20)
	}
	for _, k := range []int{math.MinInt, math.MaxInt, 257, 1<<32 + 1, -1 << 63} {
		checkRight(t, 1, api.Msg{Kind: k}, false)
		checkRight(t, 2, api.Msg{Kind: k}, false)
	}
}

// H1: Trace, by each version.
func TestRightTrace(t *testing.T) {
	for _, kind := range []int{1, 9, 10, 20} {
		for _, n := range []int{0, 1, 2, 1<<53 - 1, 1 << 53} {
			checkRight(t, 1, api.Msg{Kind: kind, Trace: n}, kind <= 9 && n == 0)
			checkRight(t, 2, api.Msg{Kind: kind, Trace: n}, true)
		}
		for _, n := range []int{-1, 1<<53 + 1, math.MaxInt, math.MinInt} {
			checkRight(t, 1, api.Msg{Kind: kind, Trace: n}, false)
			checkRight(t, 2, api.Msg{Kind: kind, Trace: n}, false)
		}
	}
}

// H1: From, To and Seq, by each version.
func TestRightNumbers(t *testing.T) {
	check := func(n int, want bool) {
		t.Helper()
		for v := 1; v <= 2; v++ {
			checkRight(t, v, api.Msg{Kind: 1, From: n}, want)
			checkRight(t, v, api.Msg{Kind: 1, To: n}, want)
			checkRight(t, v, api.Msg{Kind: 1, Seq: n}, want)
			checkRight(t, v, api.Msg{Kind: 1, From: n, To: n, Seq: n}, want)
		}
	}
	for _, n := range []int{0, 1, 2, 1<<53 - 1, 1 << 53} {
		check(n, true)
	}
	for _, n := range []int{-1, -1 << 53, 1<<53 + 1, 1 << 54, math.MaxInt, math.MinInt} {
		check(n, false)
	}
}

// H1: bytes of Body are counted, not signs, by each version.
func TestRightBody(t *testing.T) {
	for v := 1; v <= 2; v++ {
		for _, n := range []int{0, 1, 2, 999, 1000} {
			checkRight(t, v, api.Msg{Kind: 1, Body: strings.Repeat("\x00", n)}, true)
		}
		for _, n := range []int{1001, 1002, 2000, 100000} {
			checkRight(t, v, api.Msg{Kind: 1, Body: strings.Repeat("\x00", n)}, false)
		}
		checkRight(t, v, api.Msg{Kind: 1, Body: strings.Repeat("é", 500)}, true)
		checkRight(t, v, api.Msg{Kind: 1, Body: strings.Repeat("é", 500) + "x"}, false)
		checkRight(t, v, api.Msg{Kind: 1, Body: strings.Repeat("\xff", 1000)}, true)
	}
}

// H1, H2: by a version that is none nothing is right, and the error is ErrArg, for a message that is right by 2 alone, too.
func TestNoVersion(t *testing.T) {
	for _, v := range versions()[2:] {
		for _, m := range []api.Msg{{Kind: 1}, {Kind: 10}, {Kind: 1, Trace: 1}, {Kind: 21}, {}} {
			checkRight(t, v, m, false)
			checkEncode(t, v, m, "", api.ErrArg)
		}
	}
}

// H2: what version 1 may not say but version 2 may is ErrVersion; what neither may say is ErrArg.
func TestEncodeRefused(t *testing.T) {
	body := strings.Repeat("b", 1000)
	for _, m := range []api.Msg{
		{Kind: 10}, {Kind: 20}, {Kind: 1, Trace: 1}, {Kind: 9, Trace: 1 << 53}, {Kind: 20, Trace: 1 << 53},
		{Kind: 10, From: 1 << 53, To: 1 << 53, Seq: 1 << 53, Body: body}, {Kind: 1, Body: body, Trace: 1},
	} {
		checkEncode(t, 1, m, "", api.ErrVersion)
		want, _ := wantEncode(2, m)
		checkEncode(t, 2, m, want, api.OK)
	}
	for _, m := range []api.Msg{
		{}, {Kind: -1}, {Kind: 21}, {Kind: 0, Trace: 1}, {Kind: 21, Trace: 1}, {Kind: 1, Trace: -1}, {Kind: 1, Trace: 1<<53 + 1},
		{Kind: 1, From: -1}, {Kind: 1, To: -1}, {Kind: 1, Seq: -1}, {Kind: 1, From: 1<<53 + 1}, {Kind: 1, To: 1<<53 + 1}, {Kind: 1, Seq: 1<<53 + 1},
		{Kind: 1, Body: body + "b"}, {Kind: 10, Body: body + "b"}, {Kind: 10, From: -1}, {Kind: 10, To: 1<<53 + 1}, {Kind: 10, Trace: -1}, {Kind: 1, Seq: -1, Trace: 1},
	} {
		checkEncode(t, 1, m, "", api.ErrArg)
		checkEncode(t, 2, m, "", api.ErrArg)
	}
}

// H1, H2, H4: all edges, by all versions.
func TestMessagesByTheWords(t *testing.T) {
	for _, m := range messages() {
		for _, v := range versions() {
			checkMessage(t, v, m)
		}
	}
}

// H2, H3, H4: numbers of all lengths, in each field.
func TestNumbersByTheWords(t *testing.T) {
	for n := 1; n <= 1<<53; n += n/5 + 1 {
		for v := 1; v <= 2; v++ {
			checkMessage(t, v, api.Msg{Kind: 1, From: n})
			checkMessage(t, v, api.Msg{Kind: 1, To: n})
			checkMessage(t, v, api.Msg{Kind: 1, Seq: n})
			checkMessage(t, v, api.Msg{Kind: 1, Trace: n})
			checkMessage(t, v, api.Msg{Kind: 20, From: n, To: n - 1, Seq: n / 2, Body: "x", Trace: n})
		}
	}
}

// H2, H3, H4: bodies of all lengths, and of all bytes.
func TestBodiesByTheWords(t *testing.T) {
	all := make([]byte, 1002)
	for i := range all {
		all[i] = byte(i * 7)
	}
	for n := range 1002 {
		for v := 1; v <= 2; v++ {
			checkMessage(t, v, api.Msg{Kind: 9, To: 1, Body: string(all[:n])})
		}
	}
}

// H3: a first byte that is neither 1 nor 2, or none, is told ahead of all else.
func TestDecodeVersion(t *testing.T) {
	checkErr(t, "", api.ErrVersion)
	for c := range 256 {
		if c == 1 || c == 2 {
			continue
		}
		for _, behind := range []string{"", "\x01\x01\x01", "\x01", "\x01\x01\x00", "\x00", "\x81\x00", "\x07\x00", "\x01\x01\x01\x01\x01\x01", strings.Repeat("x", 10001)} {
			checkErr(t, string([]byte{byte(c)})+behind, api.ErrVersion)
		}
	}
	checkErr(t, "\x00\x01\x01\x01\x01", api.ErrVersion) // the version stands at the beginning, or nowhere
	checkErr(t, "\x81\x01\x01\x01", api.ErrVersion)
}

// H3: what the layer below refuses it tells, ahead of what this layer would.
func TestDecodeFields(t *testing.T) {
	text := func(n int) string { return strings.Repeat("x", n) }
	for _, c := range []struct {
		bytes string // behind the version
		e     api.Errno
	}{
		{"\x01", api.ErrCut},
		{"\x01\x01", api.ErrCut},
		{"\x80", api.ErrCut},
		{"\x01\x80", api.ErrCut},
		{"\x01\x01\x01\x05\x02x", api.ErrCut},
		{"\x01\x01\x01\x05\xe8\x07" + text(999), api.ErrCut},
		{"\x81\x00", api.ErrForm},
		{"\x01\x81\x00", api.ErrForm},
		{"\x01\x81\x00\x01", api.ErrForm},
		{"\x01\x01\x01\x05\xe9\x07" + text(1001), api.ErrForm}, // a Body that is too long
		{"\xff\xff\xff\xff\xff\xff\xff\xff\x01", api.ErrForm},
		{manyFields(65), api.ErrForm},
		{"\x00\x01\x01", api.ErrTags},
		{"\x01\x01\x01\x01\x01\x01", api.ErrTags},
		{"\x02\x01\x01\x01\x01\x01", api.ErrTags},
		{"\x01\x01\x01\xc1\x84\x3d\x01x", api.ErrTags},
		{text(10001), api.ErrLong},
		{"\x01\x01\x01" + text(9998), api.ErrLong},
		{"\x00" + text(10000), api.ErrLong},
		{"\x01\x00\x02", api.ErrCut}, // ahead of what is ErrKnown
		{"\x07\x00\x08", api.ErrCut},
		{"\x01\x00\x01\x00", api.ErrTags},
		{"\x01\x01\x15\x02\x81\x00", api.ErrForm},
		{"\x06\x01\x00\x80\x80\x00", api.ErrForm},
	} {
		checkErr(t, "\x01"+c.bytes, c.e)
		checkErr(t, "\x02"+c.bytes, c.e)
	}
}

// manyFields are the bytes of n fields of tags that rise from 1 on, a byte 1 in each.
func manyFields(n int) string {
	var b strings.Builder
	for tag := 1; tag <= n; tag++ {
		b.Write([]byte{byte(tag), 1, 1})
	}
	return b.String()
}

// H3: 10000 bytes behind the version are not too many for fields, but hold no message.
func TestDecodeLongest(t *testing.T) {
	var b strings.Builder
	b.WriteString("\x01\x01\x01")
	for tag := 7; tag < 16; tag++ {
		b.Write([]byte{byte(tag), 0xe8, 7})
		b.WriteString(strings.Repeat("x", 1000))
	}
	rest := 10000 - b.Len() - 3
	b.Write([]byte{16, byte(rest%128 + 128), byte(rest / 128)})
	b.WriteString(strings.Repeat("x", rest))
	for _, v := range []string{"\x01", "\x02"} {
		checkErr(t, v+b.String(), api.ErrKnown)
		checkErr(t, v+b.String()+"\x11", api.ErrLong)
	}
}

// H3: tags that a version does not know.
func TestDecodeTags(t *testing.T) {
	checkErr(t, "\x01\x01\x01\x01\x06\x01\x01", api.ErrKnown)
	checkDecode(t, "\x02\x01\x01\x01\x06\x01\x01", 2, api.Msg{Kind: 1, Trace: 1}, api.OK)
	for tag := 6; tag < 3000; tag++ {
		for _, data := range []string{"", "\x00", "\x01", "x"} {
			s := "\x01\x01\x01" + wantNumber(tag) + wantSize(len(data)) + data
			checkErr(t, "\x01"+s, api.ErrKnown)
			if tag > 6 {
				checkErr(t, "\x02"+s, api.ErrKnown)
			}
		}
	}
	for _, tag := range []int{255, 256, 257, 258, 261, 262, 1 << 16, 1<<16 + 1, 999999, 1000000} {
		for _, v := range []string{"\x01", "\x02"} {
			checkErr(t, v+wantNumber(tag)+"\x01\x01", api.ErrKnown)
			checkErr(t, v+"\x01\x01\x01\x05\x01b"+wantNumber(tag)+"\x01\x01", api.ErrKnown)
		}
	}
	for n := 7; n <= 64; n++ {
		checkErr(t, "\x01"+manyFields(n), api.ErrKnown)
		checkErr(t, "\x02"+manyFields(n), api.ErrKnown)
	}
}

// H3: Data of a number that is not the bytes of one above 0, and, of the Body, none.
func TestDecodeData(t *testing.T) {
	wrong := []string{
		"", "\x00", // empty, that of 0
		"\x80", "\xff\xff", "\x80\x80\x80\x80\x80\x80\x80", // cut off
		"\x80\x00", "\x81\x00", "\x81\x80\x00", "\xff\xff\xff\xff\xff\xff\xff\x00", "\x80\x80\x80\x80\x80\x80\x80\x80\x01", // too long
		"\x81\x80\x80\x80\x80\x80\x80\x10", "\x80\x80\x80\x80\x80\x80\x80\x11", "\xff\xff\xff\xff\xff\xff\xff\xff", // too great
		"\x01\x01", "\x01\x00", "\x00\x00", "\x00\x01", "\x80\x01\x80", "\x80\x80\x80\x80\x80\x80\x80\x10\x00", "ab", strings.Repeat("\x01", 1000), // more behind it
	}
	for _, data := range wrong {
		f := wantSize(len(data)) + data
		for _, v := range []string{"\x01", "\x02"} {
			checkErr(t, v+"\x01"+f, api.ErrKnown)
			checkErr(t, v+"\x01"+f+"\x02\x01\x01", api.ErrKnown)
			for tag := 2; tag <= 6; tag++ {
				if tag == 5 && data != "" {
					continue
				}
				s := v + "\x01\x01\x01" + string([]byte{byte(tag)}) + f
				checkErr(t, s, api.ErrKnown)
				if tag < 5 {
					checkErr(t, s+"\x05\x01b", api.ErrKnown)
				}
			}
		}
	}
}

// H3: messages that are not right, by their version.
func TestDecodeNotRight(t *testing.T) {
	for k := 1; k < 128; k++ {
		s := "\x01\x01" + string([]byte{byte(k)})
		if k > 9 {
			checkErr(t, "\x01"+s, api.ErrKnown)
			checkErr(t, "\x01"+s+"\x05\x01b", api.ErrKnown)
		}
		if k > 20 {
			checkErr(t, "\x02"+s, api.ErrKnown)
			checkErr(t, "\x02"+s+"\x06\x01\x01", api.ErrKnown)
		}
	}
	for _, v := range []string{"\x01", "\x02"} {
		checkErr(t, v, api.ErrKnown) // no Kind
		for tag := 2; tag <= 6; tag++ {
			checkErr(t, v+string([]byte{byte(tag)})+"\x01\x01", api.ErrKnown)
		}
		for _, k := range []int{128, 129, 256, 257, 265, 1<<32 + 1, 1 << 53} {
			checkErr(t, v+"\x01"+wantSize(len(wantNumber(k)))+wantNumber(k), api.ErrKnown)
		}
	}
}

// H3, H4: all texts of few of the signs at which the answer turns, behind a version, and behind one and a Kind.
func TestBytesByTheWords(t *testing.T) {
	texts := []string{""}
	for range 7 {
		var longer []string
		for _, s := range texts {
			for _, v := range []string{"", "\x01", "\x02"} {
				checkBytes(t, v+s)
				checkBytes(t, v+"\x01\x01\x01"+s)
			}
			for _, c := range []string{"\x00", "\x01", "\x02", "\x05", "\x06", "\x07", "\x80"} {
				longer = append(longer, s+c)
			}
		}
		texts = longer
	}
}

// H3, H4: each byte of right texts, changed to each other one, left out, or the last one.
func TestChangedByTheWords(t *testing.T) {
	for _, p := range pairs() {
		if len(p.bytes) > 100 {
			continue
		}
		for i := range p.bytes {
			checkBytes(t, p.bytes[:i])
			checkBytes(t, p.bytes[:i]+p.bytes[i+1:])
			for c := range 256 {
				b := []byte(p.bytes)
				b[i] = byte(c)
				checkBytes(t, string(b))
			}
		}
		for c := range 256 {
			checkBytes(t, p.bytes+string([]byte{byte(c)}))
		}
	}
}

// H4: Decode undoes Encode, and Encode Decode.
func TestThereAndBack(t *testing.T) {
	for _, m := range messages() {
		for v := 1; v <= 2; v++ {
			s, e := Encode(v, m)
			if e != api.OK {
				checkErr(t, s, api.ErrVersion) // with the error there are no bytes
				continue
			}
			checkDecode(t, s, v, m, api.OK)
		}
	}
	for _, p := range pairs() {
		v, m, _ := Decode(p.bytes)
		checkEncode(t, v, m, p.bytes, api.OK)
	}
}

// H4: what version 1 may say version 2 may, too, with the same bytes but the first one.
func TestVersion1By2(t *testing.T) {
	said := 0
	for _, m := range messages() {
		s, e := Encode(1, m)
		if e != api.OK {
			continue
		}
		said++
		checkRight(t, 2, m, true)
		checkEncode(t, 2, m, "\x02"+s[1:], api.OK)
		checkDecode(t, "\x02"+s[1:], 2, m, api.OK)
	}
	if said < 100 {
		t.Errorf("version 1 said %d messages", said)
	}
}

// R4: what was asked before changes no answer.
func TestAskedAgain(t *testing.T) {
	for range 2 {
		for _, p := range pairs() {
			checkErr(t, p.bytes+"\x07\x00", api.ErrKnown)
			checkEncode(t, 3, p.msg, "", api.ErrArg)
			checkEncode(t, p.version, p.msg, p.bytes, api.OK)
			checkDecode(t, p.bytes, p.version, p.msg, api.OK)
		}
	}
}

func FuzzDecode(f *testing.F) {
	for _, p := range pairs() {
		f.Add(p.bytes)
	}
	f.Fuzz(checkBytes)
}

func FuzzEncode(f *testing.F) {
	f.Add(3, 0, -1, -1, -1, "", -1)
	for _, p := range pairs() {
		f.Add(p.version, p.msg.Kind, p.msg.From, p.msg.To, p.msg.Seq, p.msg.Body, p.msg.Trace)
	}
	f.Fuzz(func(t *testing.T, v, kind, from, to, seq int, body string, trace int) {
		checkMessage(t, v, api.Msg{Kind: kind, From: from, To: to, Seq: seq, Body: body, Trace: trace})
	})
}
