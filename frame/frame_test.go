package frame

import (
	"fmt"
	"hash/crc32"
	"math"
	"slices"
	"strings"
	"testing"

	"careen/api"
	"careen/varint"
)

// frameOf is a frame, in few words.
func frameOf(kind, flags int, data string) api.Frame {
	return api.Frame{Kind: kind, Flags: flags, Data: data}
}

// closed is a text, with the bytes of its sum behind it. The sum is the library's, which was written apart from the program's.
func closed(s string) string {
	n := crc32.ChecksumIEEE([]byte(s))
	return s + string([]byte{byte(n), byte(n >> 8), byte(n >> 16), byte(n >> 24)})
}

// mixture is a text of that many bytes, all values among them, in no plain order.
func mixture(size int) string {
	b := make([]byte, size)
	state := uint32(size)*2654435761 + 12345
	for i := range b {
		state = state*1664525 + 1013904223
		b[i] = byte(state >> 24)
	}
	return string(b)
}

// versions are those that there are, and others.
func versions() []int {
	return []int{1, 2, 0, 3, -1, -2, 97, 98, 257, 258, 1<<32 + 1, 1<<32 + 2, math.MaxInt, math.MinInt, math.MinInt + 1}
}

func isVersion(v int) bool { return v == 1 || v == 2 }

// sizes are how many bytes Data may have, those among them at which the bytes change that tell it.
func sizes() []int {
	return []int{0, 1, 2, 126, 127, 128, 129, 254, 255, 256, 257, 300, 511, 512, 3839, 3840, 3999, 4000}
}

// wantRight is promise F1 by its words.
func wantRight(v int, f api.Frame) bool {
	switch v {
	case 1:
		return f.Kind > 0 && f.Kind < 10 && f.Flags == 0 && len(f.Data) < 4001
	case 2:
		return f.Kind > 0 && f.Kind < 256 && f.Flags > -1 && f.Flags < 256 && len(f.Data) < 4001
	}
	return false
}

// wantSize are the bytes that tell how many Data has, by the chapter's words.
func wantSize(v, n int) string {
	if v == 1 {
		return string([]byte{byte(n / 256), byte(n % 256)})
	}
	s, _ := varint.Put(n)
	return s
}

// wantBytes are a right frame's bytes by the chapter's words.
func wantBytes(v int, f api.Frame) string {
	marks := []byte{97, byte(f.Kind)}
	if v == 2 {
		marks = []byte{98, byte(f.Flags), byte(f.Kind)}
	}
	return closed(string(marks) + wantSize(v, len(f.Data)) + f.Data)
}

// wantTake is the right frame whose bytes a text begins with: of each number of bytes that Data may have it is tried whether it is.
func wantTake(v int, s string) (api.Frame, int, bool) {
	marks := v + 1
	if len(s) < marks {
		return api.Frame{}, 0, false
	}
	for n := range min(len(s), 4000) + 1 {
		size := wantSize(v, n)
		from := marks + len(size)
		if !strings.HasPrefix(s[marks:], size) || len(s) < from+n {
			continue
		}
		f := frameOf(int(s[marks-1]), 0, s[from:from+n])
		if v == 2 {
			f.Flags = int(s[1])
		}
		if b := wantBytes(v, f); wantRight(v, f) && strings.HasPrefix(s, b) {
			return f, len(b), true
		}
	}
	return api.Frame{}, 0, false
}

// wantCut tells by F3's words whether a text that begins with v's letter is cut off.
func wantCut(v int, s string) bool {
	n, head := 0, 4
	if v == 1 {
		if len(s) < 4 {
			return true
		}
		n = int(s[2])*256 + int(s[3])
	} else {
		if len(s) < 3 {
			return true
		}
		size, k, e := varint.Take(s[3:])
		if e != api.OK {
			return e == api.ErrCut
		}
		n, head = size, 3+k
	}
	return n <= 4000 && len(s) < head+n+4
}

// wantScan is promise F3 by its words.
func wantScan(v int, s string) ([]api.Frame, int, api.Errno) {
	if !isVersion(v) {
		return nil, 0, api.ErrArg
	}
	var l []api.Frame
	done := 0
	for f, k, ok := wantTake(v, s); ok; f, k, ok = wantTake(v, s[done:]) {
		l = append(l, f)
		done += k
	}
	left := s[done:]
	own, others := "a", "b"
	if v == 2 {
		own, others = "b", "a"
	}
	switch {
	case left == "", strings.HasPrefix(left, own) && wantCut(v, left):
		return l, done, api.OK
	case strings.HasPrefix(left, others):
		return l, done, api.ErrVersion
	}
	return l, done, api.ErrForm
}

func checkRight(t *testing.T, v int, f api.Frame, want bool) {
	t.Helper()
	if got := Right(v, f); got != want {
		t.Errorf("Right(%d, Kind %d, Flags %d, %d bytes) = %v; want %v", v, f.Kind, f.Flags, len(f.Data), got, want)
	}
}

func checkEncode(t *testing.T, v int, f api.Frame, want string, wantE api.Errno) {
	t.Helper()
	if s, e := Encode(v, f); s != want || e != wantE {
		t.Errorf("Encode(%d, Kind %d, Flags %d, %d bytes) = %.40q, of %d bytes, %d; want %.40q, of %d bytes, %d", v, f.Kind, f.Flags, len(f.Data), s, len(s), e, want, len(want), wantE)
	}
}

// brief tells how many frames there are, and what the last one is.
func brief(l []api.Frame) string {
	if len(l) == 0 {
		return "no frames"
	}
	f := l[len(l)-1]
	return fmt.Sprintf("%d frames, at last Kind %d, Flags %d, %.20q, of %d bytes", len(l), f.Kind, f.Flags, f.Data, len(f.Data))
}

func checkScan(t *testing.T, v int, s string, want []api.Frame, wantN int, wantE api.Errno) {
	t.Helper()
	if l, n, e := Scan(v, s); !slices.Equal(l, want) || n != wantN || e != wantE {
		t.Errorf("Scan(%d, %.60q, of %d bytes) = %s, %d, %d; want %s, %d, %d", v, s, len(s), brief(l), n, e, brief(want), wantN, wantE)
	}
}

// checkWords holds Scan against the words; and what it tells as frames against F4: encoded, it is what stood there.
func checkWords(t *testing.T, v int, s string) {
	t.Helper()
	l, n, e := wantScan(v, s)
	checkScan(t, v, s, l, n, e)
	var b strings.Builder
	for _, f := range l {
		one, _ := Encode(v, f)
		b.WriteString(one)
	}
	if b.String() != s[:n] {
		t.Errorf("Scan(%d, %.60q): its frames encoded are %.60q", v, s, b.String())
	}
}

// checkBehind scans what may stand behind frames, alone and behind one and two that are whole: those are told, with that error.
func checkBehind(t *testing.T, v int, s string, want api.Errno) {
	t.Helper()
	l := rightFrames(v)[:2]
	one, two := wantBytes(v, l[0]), wantBytes(v, l[0])+wantBytes(v, l[1])
	checkScan(t, v, s, nil, 0, want)
	checkScan(t, v, one+s, l[:1], len(one), want)
	checkScan(t, v, two+s, l, len(two), want)
}

// rightFrames are frames of all kinds that may be by a version.
func rightFrames(v int) []api.Frame {
	l := []api.Frame{frameOf(3, 0, "xy"), frameOf(1, 0, ""), frameOf(9, 0, "a"), frameOf(2, 0, "b\x00\xff")}
	if v == 2 {
		l = append(l, frameOf(10, 0, "a"), frameOf(255, 0, ""), frameOf(1, 1, ""), frameOf(97, 98, "\x80"), frameOf(255, 255, "ba"))
	}
	for i, size := range sizes() {
		l = append(l, frameOf(1+i%9, 0, mixture(size)))
		if v == 2 {
			l = append(l, frameOf(10+i*13, i*15, mixture(size)))
		}
	}
	return append(l, frameOf(4, 0, wantBytes(1, frameOf(3, 0, "xy"))), frameOf(5, 0, wantBytes(2, frameOf(3, 0, "xy"))), frameOf(6, 0, strings.Repeat("\x00", 200)), frameOf(7, 0, "世界"))
}

// shortFrames are those of them that are not long.
func shortFrames(v int) []api.Frame {
	return slices.DeleteFunc(rightFrames(v), func(f api.Frame) bool { return len(f.Data) > 300 })
}

// bytesOf are frames' bytes, one behind the other.
func bytesOf(v int, l ...api.Frame) string {
	var b strings.Builder
	for _, f := range l {
		b.WriteString(wantBytes(v, f))
	}
	return b.String()
}

// F1: frames at the edges, written out.
func TestRightWrittenOut(t *testing.T) {
	for _, x := range []struct {
		f        api.Frame
		one, two bool
	}{
		{frameOf(1, 0, ""), true, true},
		{frameOf(3, 0, "xy"), true, true},
		{frameOf(9, 0, "x"), true, true},
		{frameOf(10, 0, ""), false, true},
		{frameOf(255, 0, ""), false, true},
		{frameOf(256, 0, ""), false, false},
		{frameOf(257, 0, ""), false, false},
		{frameOf(0, 0, ""), false, false},
		{frameOf(0, 0, "x"), false, false},
		{frameOf(0, 1, "x"), false, false},
		{frameOf(-1, 0, ""), false, false},
		{frameOf(math.MaxInt, 0, ""), false, false},
		{frameOf(math.MinInt, 0, ""), false, false},
		{frameOf(1<<32+1, 0, ""), false, false},
		{frameOf(1, 1, ""), false, true},
		{frameOf(1, 255, ""), false, true},
		{frameOf(1, 256, ""), false, false},
		{frameOf(1, -1, ""), false, false},
		{frameOf(1, math.MaxInt, ""), false, false},
		{frameOf(1, math.MinInt, ""), false, false},
		{frameOf(1, 1<<32, ""), false, false},
		{frameOf(255, 255, "x"), false, true},
		{frameOf(255, 256, "x"), false, false},
		{frameOf(256, 255, "x"), false, false},
		{frameOf(1, 0, strings.Repeat("d", 3999)), true, true},
		{frameOf(1, 0, strings.Repeat("d", 4000)), true, true},
		{frameOf(1, 0, strings.Repeat("d", 4001)), false, false},
		{frameOf(1, 0, strings.Repeat("d", 65536)), false, false},
		{frameOf(10, 1, strings.Repeat("d", 4000)), false, true},
		{frameOf(10, 1, strings.Repeat("d", 4001)), false, false},
		{frameOf(1, 0, strings.Repeat("世", 1334)), false, false}, // bytes are counted, not signs
	} {
		for _, v := range versions() {
			checkRight(t, v, x.f, v == 1 && x.one || v == 2 && x.two)
		}
	}
}

// grid is frames of all edges with one another.
func grid() []api.Frame {
	var l []api.Frame
	for _, kind := range []int{0, 1, 2, 9, 10, 11, 128, 254, 255, 256, 257, 512, -1, -255, -256, math.MaxInt, math.MinInt} {
		for _, flags := range []int{0, 1, 2, 127, 128, 254, 255, 256, 257, 512, -1, -256, math.MaxInt, math.MinInt} {
			for _, size := range []int{0, 1, 127, 128, 255, 256, 4000, 4001} {
				l = append(l, frameOf(kind, flags, mixture(size)))
			}
		}
	}
	return l
}

// F1, F2: all edges with one another, by all versions.
func TestRightAndEncodeByTheWords(t *testing.T) {
	for _, f := range grid() {
		for _, v := range versions() {
			want := wantRight(v, f)
			checkRight(t, v, f, want)
			if want {
				checkEncode(t, v, f, wantBytes(v, f), api.OK)
			} else {
				checkEncode(t, v, f, "", api.ErrArg)
			}
		}
	}
}

// F2: bytes, written out, the sums' too.
func TestEncodeWrittenOut(t *testing.T) {
	checkEncode(t, 1, frameOf(3, 0, "xy"), "\x61\x03\x00\x02\x78\x79\x84\xe9\x71\xf8", api.OK)
	checkEncode(t, 1, frameOf(1, 0, ""), "a\x01\x00\x00\x4d\x25\x1c\xa3", api.OK)
	checkEncode(t, 1, frameOf(9, 0, ""), "a\x09\x00\x00\xf5\x74\x0f\xad", api.OK)
	checkEncode(t, 1, frameOf(5, 0, "\x00"), "a\x05\x00\x01\x00\x93\x68\xb5\x4c", api.OK)
	checkEncode(t, 2, frameOf(1, 0, ""), "b\x00\x01\x00\xd5\xd1\x70\xa9", api.OK)
	checkEncode(t, 2, frameOf(3, 7, "xy"), "b\x07\x03\x02xy\x04\x92\xd0\x99", api.OK)
	checkEncode(t, 2, frameOf(10, 0, ""), "b\x00\x0a\x00\x1e\x08\x84\x4a", api.OK)
	checkEncode(t, 2, frameOf(1, 1, "\xff\x80"), "b\x01\x01\x02\xff\x80\x1b\xeb\x3a\x0c", api.OK)
	checkEncode(t, 2, frameOf(255, 255, "z"), "b\xff\xff\x01z\x4f\x48\x86\xec", api.OK)
}

// F2: how many bytes Data has, at each change of the bytes that tell it.
func TestEncodeSizes(t *testing.T) {
	for _, x := range []struct {
		size     int
		one, two string
	}{
		{0, "\x00\x00", "\x00"},
		{1, "\x00\x01", "\x01"},
		{127, "\x00\x7f", "\x7f"},
		{128, "\x00\x80", "\x80\x01"},
		{255, "\x00\xff", "\xff\x01"},
		{256, "\x01\x00", "\x80\x02"},
		{300, "\x01\x2c", "\xac\x02"},
		{4000, "\x0f\xa0", "\xa0\x1f"},
	} {
		data := strings.Repeat("d", x.size)
		checkEncode(t, 1, frameOf(9, 0, data), closed("a\x09"+x.one+data), api.OK)
		checkEncode(t, 2, frameOf(9, 0, data), closed("b\x00\x09"+x.two+data), api.OK)
		checkEncode(t, 2, frameOf(200, 100, data), closed("b\x64\xc8"+x.two+data), api.OK)
	}
}

// F2: Data of all lengths; one byte more is refused.
func TestEncodeAllSizes(t *testing.T) {
	data := mixture(4001)
	for v := 1; v <= 2; v++ {
		for size := range 4001 {
			f := frameOf(v, v-1, data[:size])
			checkEncode(t, v, f, wantBytes(v, f), api.OK)
		}
		checkEncode(t, v, frameOf(v, v-1, data), "", api.ErrArg)
	}
}

// F3: nothing is left: no frames, one, and several.
func TestScanWhole(t *testing.T) {
	for v := 1; v <= 2; v++ {
		checkScan(t, v, "", nil, 0, api.OK)
		l := rightFrames(v)
		for _, f := range l {
			s := bytesOf(v, f)
			checkScan(t, v, s, []api.Frame{f}, len(s), api.OK)
			checkScan(t, v, s+s+s, []api.Frame{f, f, f}, 3*len(s), api.OK)
		}
		all := bytesOf(v, l...)
		checkScan(t, v, all, l, len(all), api.OK)
		slices.Reverse(l)
		all = bytesOf(v, l...)
		checkScan(t, v, all, l, len(all), api.OK)
	}
}

// F3: bytes, written out.
func TestScanWrittenOut(t *testing.T) {
	one, two := "\x61\x03\x00\x02\x78\x79\x84\xe9\x71\xf8", "b\x07\x03\x02xy\x04\x92\xd0\x99"
	checkScan(t, 1, one, []api.Frame{{Kind: 3, Data: "xy"}}, 10, api.OK)
	checkScan(t, 2, two, []api.Frame{{Kind: 3, Flags: 7, Data: "xy"}}, 10, api.OK)
	checkScan(t, 1, one+"a\x01\x00\x00\x4d\x25\x1c\xa3", []api.Frame{{Kind: 3, Data: "xy"}, {Kind: 1}}, 18, api.OK)
	checkScan(t, 2, two+"b\x00\x0a\x00\x1e\x08\x84\x4a", []api.Frame{{Kind: 3, Flags: 7, Data: "xy"}, {Kind: 10}}, 18, api.OK)
	checkScan(t, 1, one+one[:9], []api.Frame{{Kind: 3, Data: "xy"}}, 10, api.OK)
	checkScan(t, 1, one+two, []api.Frame{{Kind: 3, Data: "xy"}}, 10, api.ErrVersion)
	checkScan(t, 2, two+one, []api.Frame{{Kind: 3, Flags: 7, Data: "xy"}}, 10, api.ErrVersion)
	checkScan(t, 1, one+"x", []api.Frame{{Kind: 3, Data: "xy"}}, 10, api.ErrForm)
}

// F3: by a version that is none nothing is told, whatever stands there.
func TestScanNoVersion(t *testing.T) {
	for _, v := range versions() {
		if isVersion(v) {
			continue
		}
		for _, s := range []string{"", "a", "b", "x", bytesOf(1, rightFrames(1)...), bytesOf(2, rightFrames(2)...), "\x00"} {
			checkScan(t, v, s, nil, 0, api.ErrArg)
		}
	}
}

// F3, F4: cut off at each place: alone, and behind others, which are told.
func TestScanCutOff(t *testing.T) {
	for v := 1; v <= 2; v++ {
		ahead := rightFrames(v)[:3]
		lead := bytesOf(v, ahead...)
		for _, f := range rightFrames(v) {
			s := bytesOf(v, f)
			for k := range len(s) {
				checkScan(t, v, s[:k], nil, 0, api.OK)
			}
			for _, k := range []int{0, 1, 2, 3, 4, 5, len(s) / 2, len(s) - 5, len(s) - 4, len(s) - 3, len(s) - 2, len(s) - 1} {
				checkScan(t, v, lead+s[:k], ahead, len(lead), api.OK)
			}
		}
	}
}

// F4: of several frames those are told that are whole, wherever the end is cut off.
func TestScanSeveralCutOff(t *testing.T) {
	for v := 1; v <= 2; v++ {
		l := shortFrames(v)
		all := bytesOf(v, l...)
		whole, end := 0, 0
		for k := range len(all) + 1 {
			if whole < len(l) && k == end+len(bytesOf(v, l[whole])) {
				whole, end = whole+1, k
			}
			checkScan(t, v, all[:k], l[:whole], end, api.OK)
		}
		if whole != len(l) {
			t.Errorf("version %d: %d frames were whole, of %d", v, whole, len(l))
		}
	}
}

// F3: heads that are cut off, by the words: what stands there is not asked, if the length is not all there, or asks for more.
func TestScanHeadCutOff(t *testing.T) {
	for _, s := range []string{"a", "a\x01", "a\x00", "a\xff", "a\x01\x00", "a\x01\x0f", "a\x01\x10", "a\x01\xff", "a\x00\xff", "a\x01\x00\x00", "a\x01\x0f\xa0", "a\x00\x00\x00", "a\x0a\x00\x01", "a\xff\x0f\xa0", "a\x01\x00\x00abc", "a\x00\x00\x01xabc"} {
		checkBehind(t, 1, s, api.OK)
	}
	for _, s := range []string{
		"b", "b\x00", "b\x00\x00", "b\xff\xff", "b\x00\x01", "b\x00\x01\x80", "b\x00\x01\xff\xff", "b\x00\x00\xa0", "b\x00\x01" + strings.Repeat("\x80", 7), "b\x00\x01" + strings.Repeat("\xff", 7),
		"b\x00\x01\x00", "b\x00\x00\x00", "b\x00\x01\x01", "b\x00\x01\xa0\x1f", "b\x00\x00\xa0\x1f", "b\x00\x01\x00abc", "b\x00\x00\x01xabc",
	} {
		checkBehind(t, 2, s, api.OK)
	}
	checkBehind(t, 1, "a\x01\x0f\xa0"+strings.Repeat("d", 4003), api.OK)
	checkBehind(t, 2, "b\x00\x01\xa0\x1f"+strings.Repeat("d", 4003), api.OK)
}

// F3: a length over 4000 is no frame's, whether so many bytes are there or not, though the sum is right.
func TestScanTooLong(t *testing.T) {
	for _, size := range []int{4001, 4002, 4095, 4096, 5000, 8000, 65534, 65535} {
		for _, s := range []string{"a\x01" + wantSize(1, size), "a\x00" + wantSize(1, size), "a\xff" + wantSize(1, size)} {
			checkBehind(t, 1, s, api.ErrForm)
			checkBehind(t, 1, s+"abcd", api.ErrForm)
			checkBehind(t, 1, s+mixture(size), api.ErrForm)
			checkBehind(t, 1, closed(s+mixture(size)), api.ErrForm)
		}
	}
	for _, size := range []int{4001, 4002, 4096, 16383, 16384, 65535, 65536, 100000, 1 << 31, 1 << 32, 1<<32 + 1, 1<<53 - 1, 1 << 53} {
		for _, s := range []string{"b\x00\x01" + wantSize(2, size), "b\x00\x00" + wantSize(2, size), "b\xff\xff" + wantSize(2, size)} {
			checkBehind(t, 2, s, api.ErrForm)
			checkBehind(t, 2, s+"abcd", api.ErrForm)
			if size <= 100000 {
				checkBehind(t, 2, s+mixture(size), api.ErrForm)
				checkBehind(t, 2, closed(s+mixture(size)), api.ErrForm)
			}
		}
	}
}

// F3: by version 2 a length that is no number's bytes.
func TestScanNoNumber(t *testing.T) {
	for _, number := range []string{
		"\x80\x00", "\xff\x00", "\x81\x80\x00", "\x80\x80\x80\x80\x80\x80\x00", // more bytes than it has
		"\x81\x80\x80\x80\x80\x80\x80\x10", "\xff\xff\xff\xff\xff\xff\xff\x7f", // too great
		strings.Repeat("\x80", 8), strings.Repeat("\xff", 8), strings.Repeat("\x80", 9) + "\x01", // without an end
	} {
		for _, behind := range []string{"", "x", "abcd", "xabcd", strings.Repeat("d", 200)} {
			checkBehind(t, 2, "b\x00\x01"+number+behind, api.ErrForm)
			checkBehind(t, 2, closed("b\x00\x01"+number+behind), api.ErrForm)
		}
	}
}

// F3: the other version's letter is told, whatever stands behind it.
func TestScanOthersLetter(t *testing.T) {
	for _, f := range rightFrames(1) {
		checkBehind(t, 2, bytesOf(1, f), api.ErrVersion)
	}
	for _, f := range rightFrames(2) {
		checkBehind(t, 1, bytesOf(2, f), api.ErrVersion)
	}
	for _, s := range []string{"", "\x00", "a", "b", "\x01\x00\x00", "\xff\xff\xff\xff", "x", strings.Repeat("\x80", 20)} {
		checkBehind(t, 1, "b"+s, api.ErrVersion)
		checkBehind(t, 2, "a"+s, api.ErrVersion)
		checkBehind(t, 1, closed("b"+s), api.ErrVersion)
		checkBehind(t, 2, closed("a"+s), api.ErrVersion)
	}
}

// F3: any other byte is no frame's first one.
func TestScanOtherLetters(t *testing.T) {
	for c := range 256 {
		if c == 'a' || c == 'b' {
			continue
		}
		letter := string([]byte{byte(c)})
		for v := 1; v <= 2; v++ {
			checkBehind(t, v, letter, api.ErrForm)
			checkBehind(t, v, letter+"\x00\x00\x00", api.ErrForm)
			checkBehind(t, v, closed(letter+wantBytes(v, frameOf(3, 0, "xy"))[1:6]), api.ErrForm)
		}
	}
}

// F3: a Kind that may not be by that version, though the sum is right. (By version 2 all bytes may be Flags.)
func TestScanMarks(t *testing.T) {
	for _, data := range []string{"", "x", mixture(127), mixture(128), mixture(4000)} {
		for kind := range 256 {
			s := closed("a" + string([]byte{byte(kind)}) + wantSize(1, len(data)) + data)
			if kind >= 1 && kind <= 9 {
				checkScan(t, 1, s, []api.Frame{frameOf(kind, 0, data)}, len(s), api.OK)
			} else {
				checkBehind(t, 1, s, api.ErrForm)
			}
		}
		for _, flags := range []int{0, 1, 9, 10, 97, 98, 128, 254, 255} {
			for kind := range 256 {
				s := closed("b" + string([]byte{byte(flags), byte(kind)}) + wantSize(2, len(data)) + data)
				if kind >= 1 {
					checkScan(t, 2, s, []api.Frame{frameOf(kind, flags, data)}, len(s), api.OK)
				} else {
					checkScan(t, 2, s, nil, 0, api.ErrForm)
				}
			}
		}
		for flags := range 256 {
			s := closed("b" + string([]byte{byte(flags), 1}) + wantSize(2, len(data)) + data)
			checkScan(t, 2, s, []api.Frame{frameOf(1, flags, data)}, len(s), api.OK)
			checkBehind(t, 2, closed("b"+string([]byte{byte(flags), 0})+wantSize(2, len(data))+data), api.ErrForm)
		}
	}
}

// F3: what ends it ends it, though frames stand behind it.
func TestScanGoesNoFurther(t *testing.T) {
	good := func(v int) string { return bytesOf(v, frameOf(3, 0, "xy")) }
	checkBehind(t, 1, "x"+good(1), api.ErrForm)
	checkBehind(t, 2, "x"+good(2), api.ErrForm)
	checkBehind(t, 1, good(2)+good(1), api.ErrVersion)
	checkBehind(t, 2, good(1)+good(2), api.ErrVersion)
	checkBehind(t, 1, closed("a\x0a\x00\x00")+good(1), api.ErrForm)
	checkBehind(t, 2, closed("b\x00\x00\x00")+good(2), api.ErrForm)
	checkBehind(t, 1, "a\x01\x00\x00abcd"+good(1), api.ErrForm)
	checkBehind(t, 2, "b\x00\x01\x00abcd"+good(2), api.ErrForm)
	checkBehind(t, 1, "a\x01\x0f\xa0"+good(1), api.OK) // it is cut off: what stands there may be its Data
	checkBehind(t, 2, "b\x00\x01\xa0\x1f"+good(2), api.OK)
}

// F3, F4: one byte of Data, or of the sum, that is another one, whichever it is.
func TestScanChanged(t *testing.T) {
	for v := 1; v <= 2; v++ {
		for _, f := range shortFrames(v)[:min(len(shortFrames(v)), 12)] {
			s := wantBytes(v, f)
			for at := len(s) - 4 - len(f.Data); at < len(s); at++ {
				for flip := 1; flip < 256; flip++ {
					b := []byte(s)
					b[at] ^= byte(flip)
					checkScan(t, v, string(b), nil, 0, api.ErrForm)
				}
			}
		}
		for _, f := range rightFrames(v) {
			s := wantBytes(v, f)
			for at := len(s) - 4 - len(f.Data); at < len(s); at += 1 + len(f.Data)/50 {
				for _, flip := range []byte{1, 128, 255} {
					b := []byte(s)
					b[at] ^= flip
					checkBehind(t, v, string(b), api.ErrForm)
				}
			}
		}
	}
}

// F3: one byte of the head that is another one, whichever it is, by the words.
func TestScanHeadChanged(t *testing.T) {
	for v := 1; v <= 2; v++ {
		for _, f := range shortFrames(v) {
			s := wantBytes(v, f) + wantBytes(v, frameOf(3, 0, "xy"))
			for at := range v + 1 + len(wantSize(v, len(f.Data))) {
				for flip := 1; flip < 256; flip++ {
					b := []byte(s)
					b[at] ^= byte(flip)
					checkWords(t, v, string(b))
				}
			}
		}
	}
}

// F3: all texts of few signs that are at the edges, alone, and with their sums behind them.
func TestScanByTheWords(t *testing.T) {
	texts := []string{""}
	for range 5 {
		var longer []string
		for _, s := range texts {
			for _, c := range []string{"a", "b", "\x00", "\x01", "\x0a", "\x80"} {
				longer = append(longer, s+c)
			}
		}
		for _, s := range longer {
			for v := 1; v <= 2; v++ {
				checkWords(t, v, s)
				checkWords(t, v, closed(s))
			}
		}
		texts = longer
	}
}

// F4: what was encoded is scanned, by the version that wrote it; by the other one it is not read.
func TestEncodedIsScanned(t *testing.T) {
	for v := 1; v <= 2; v++ {
		var all strings.Builder
		for _, f := range rightFrames(v) {
			s, e := Encode(v, f)
			if e != api.OK {
				t.Fatalf("Encode(%d, %s): error %d", v, brief([]api.Frame{f}), e)
			}
			all.WriteString(s)
		}
		checkScan(t, v, all.String(), rightFrames(v), all.Len(), api.OK)
		checkScan(t, 3-v, all.String(), nil, 0, api.ErrVersion)
	}
}

// F3, R3: what comes out is new memory: written into, and grown, it changes no other answer.
func TestScanNewMemory(t *testing.T) {
	for v := 1; v <= 2; v++ {
		want := rightFrames(v)
		for _, behind := range []string{"", "x", "a", "b"} {
			s := bytesOf(v, want...) + behind
			kept := strings.Clone(s)
			first, n, e := Scan(v, s)
			second, _, _ := Scan(v, s)
			first = append(first, frameOf(7, 7, "more"))
			clear(first[:cap(first)])
			if !slices.Equal(second, want) || s != kept {
				t.Errorf("version %d: an answer was changed", v)
			}
			checkScan(t, v, s, want, n, e)
		}
	}
}

// R4: an answer hangs on what is asked alone, whatever was asked ahead.
func TestAgain(t *testing.T) {
	for v := 1; v <= 2; v++ {
		for _, f := range rightFrames(v) {
			s, _ := Encode(v, f)
			Encode(3-v, frameOf(1, 0, "something else"))
			Scan(3-v, "abc")
			Scan(0, s)
			checkEncode(t, v, f, s, api.OK)
			checkScan(t, v, ("x" + s + "y")[1:len(s)+1], []api.Frame{f}, len(s), api.OK)
		}
	}
}

// F3: a long text, of far more frames than a log may have.
func TestScanLong(t *testing.T) {
	for v := 1; v <= 2; v++ {
		f := frameOf(9, 0, mixture(4000))
		var want []api.Frame
		for range 200 {
			want = append(want, f, frameOf(1, 0, ""))
		}
		s := bytesOf(v, want...)
		checkScan(t, v, s, want, len(s), api.OK)
		checkScan(t, v, s+"\x00", want, len(s), api.ErrForm)
		checkScan(t, v, s[:len(s)-1], want[:len(want)-1], len(s)-len(wantBytes(v, want[1])), api.OK)
	}
}

func FuzzScan(f *testing.F) {
	for v := 1; v <= 2; v++ {
		for _, x := range shortFrames(v) {
			f.Add(v, wantBytes(v, x))
			f.Add(v, wantBytes(v, x)+"a\x01\x00")
		}
	}
	f.Add(0, "a")
	f.Fuzz(func(t *testing.T, v int, s string) {
		for _, v := range []int{v, 1, 2} {
			checkWords(t, v, s)
			checkWords(t, v, closed(s))
		}
	})
}

func FuzzEncode(f *testing.F) {
	for v := 1; v <= 2; v++ {
		for _, x := range shortFrames(v) {
			f.Add(v, x.Kind, x.Flags, x.Data)
		}
	}
	f.Add(0, 256, 256, "")
	f.Fuzz(func(t *testing.T, v, kind, flags int, data string) {
		x := frameOf(kind, flags, data)
		checkRight(t, v, x, wantRight(v, x))
		if !wantRight(v, x) {
			checkEncode(t, v, x, "", api.ErrArg)
			return
		}
		s := wantBytes(v, x)
		checkEncode(t, v, x, s, api.OK)
		checkScan(t, v, s, []api.Frame{x}, len(s), api.OK)
		checkScan(t, 3-v, s, nil, 0, api.ErrVersion)
	})
}
