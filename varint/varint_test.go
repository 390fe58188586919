package varint

import (
	"strings"
	"testing"

	"careen/api"
)

// edges are the numbers at which the form of the bytes changes: 0, the powers of the base, and 2^53, with those beside them.
func edges() []int {
	l := []int{0, 1, 2, 300}
	for p := 128; p < api.MaxNum; p *= 128 {
		l = append(l, p-1, p, p+1, 2*p-1, 2*p, 15*p)
	}
	return append(l, api.MaxNum-1, api.MaxNum)
}

// many are numbers of all lengths, the edges among them.
func many() []int {
	l := edges()
	for n := range 40000 {
		l = append(l, n)
	}
	for n := 1; n < api.MaxNum; n += n/9 + 1 {
		l = append(l, n)
	}
	return l
}

// wantBytes is a number's bytes as the chapter's words have them.
func wantBytes(n int) string {
	power, digits := 128, 1
	for ; n >= power; digits++ {
		power *= 128
	}
	b := make([]byte, digits)
	power = 1
	for i := range b {
		b[i] = byte(n / power % 128)
		if i < digits-1 {
			b[i] += 128
		}
		power *= 128
	}
	return string(b)
}

// wantTake tries each beginning of a text, as promise A2 has it.
func wantTake(s string) (int, int, api.Errno) {
	n, power := 0, 1
	for k := range min(len(s), 8) {
		n += int(s[k]) % 128 * power
		power *= 128
		if n <= api.MaxNum && s[:k+1] == wantBytes(n) {
			return n, k + 1, api.OK
		}
	}
	if len(s) < 8 && allGoOn(s) {
		return 0, 0, api.ErrCut
	}
	return 0, 0, api.ErrForm
}

// allGoOn tells whether 128 is in each byte.
func allGoOn(s string) bool {
	for _, c := range []byte(s) {
		if c < 128 {
			return false
		}
	}
	return true
}

func checkPut(t *testing.T, n int, want string, wantE api.Errno) {
	t.Helper()
	if s, e := Put(n); s != want || e != wantE {
		t.Errorf("Put(%d) = %q, %d; want %q, %d", n, s, e, want, wantE)
	}
}

func checkTake(t *testing.T, s string, wantN, wantK int, wantE api.Errno) {
	t.Helper()
	if n, k, e := Take(s); n != wantN || k != wantK || e != wantE {
		t.Errorf("Take(%q) = %d, %d, %d; want %d, %d, %d", s, n, k, e, wantN, wantK, wantE)
	}
}

// A1: the bytes of numbers, written out.
func TestPutWrittenOut(t *testing.T) {
	checkPut(t, 0, "\x00", api.OK)
	checkPut(t, 1, "\x01", api.OK)
	checkPut(t, 127, "\x7f", api.OK)
	checkPut(t, 128, "\x80\x01", api.OK)
	checkPut(t, 129, "\x81\x01", api.OK)
	checkPut(t, 300, "\xac\x02", api.OK)
	checkPut(t, 128*128-1, "\xff\x7f", api.OK)
	checkPut(t, 128*128, "\x80\x80\x01", api.OK)
	checkPut(t, 128*128+1, "\x81\x80\x01", api.OK)
	checkPut(t, 1<<49-1, "\xff\xff\xff\xff\xff\xff\x7f", api.OK)
	checkPut(t, 1<<49, "\x80\x80\x80\x80\x80\x80\x80\x01", api.OK)
	checkPut(t, 1<<53-1, "\xff\xff\xff\xff\xff\xff\xff\x0f", api.OK)
	checkPut(t, 1<<53, "\x80\x80\x80\x80\x80\x80\x80\x10", api.OK)
}

// A1: as the words of the chapter have it, at all lengths.
func TestPutByTheWords(t *testing.T) {
	for _, n := range many() {
		checkPut(t, n, wantBytes(n), api.OK)
	}
}

// A1: numbers that may not be; with the error there is no text.
func TestPutRefused(t *testing.T) {
	for _, n := range []int{-1, -2, -127, -128, -129, -1 << 53, -1<<63 + 1, -1 << 63, 1<<53 + 1, 1<<53 + 128, 1 << 54, 1 << 56, 1<<63 - 1} {
		checkPut(t, n, "", api.ErrArg)
	}
}

// A2: numbers, alone and with something behind them.
func TestTakeNumbers(t *testing.T) {
	checkTake(t, "\x00", 0, 1, api.OK)
	checkTake(t, "\x00\x00", 0, 1, api.OK)
	checkTake(t, "\x00\x80", 0, 1, api.OK)
	checkTake(t, "\x7f\xff", 127, 1, api.OK)
	checkTake(t, "\xac\x02", 300, 2, api.OK)
	checkTake(t, "\xac\x02\x00", 300, 2, api.OK)
	checkTake(t, "\xff\xff\xff\xff\xff\xff\x7f", 1<<49-1, 7, api.OK)
	checkTake(t, "\x80\x80\x80\x80\x80\x80\x80\x01", 1<<49, 8, api.OK)
	checkTake(t, "\xff\xff\xff\xff\xff\xff\xff\x0f", 1<<53-1, 8, api.OK)
	checkTake(t, "\x80\x80\x80\x80\x80\x80\x80\x10", 1<<53, 8, api.OK)
	checkTake(t, "\x80\x80\x80\x80\x80\x80\x80\x10\x80", 1<<53, 8, api.OK)
	checkTake(t, "\x05"+strings.Repeat("\x80", 100000), 5, 1, api.OK)
}

// A2: fewer than eight bytes, 128 in each of them: cut off. From eight on it is none.
func TestTakeCut(t *testing.T) {
	checkTake(t, "", 0, 0, api.ErrCut)
	for k := 1; k < 8; k++ {
		checkTake(t, strings.Repeat("\x80", k), 0, 0, api.ErrCut)
		checkTake(t, strings.Repeat("\xff", k), 0, 0, api.ErrCut)
		checkTake(t, "\x91\xa0\xfe\x80\xc3\x81\xff"[:k], 0, 0, api.ErrCut)
	}
	for k := 8; k < 12; k++ {
		checkTake(t, strings.Repeat("\x80", k), 0, 0, api.ErrForm)
		checkTake(t, strings.Repeat("\xff", k), 0, 0, api.ErrForm)
	}
	checkTake(t, strings.Repeat("\x80", 100000), 0, 0, api.ErrForm)
}

// A2: more bytes than there need be are no number's.
func TestTakeNotAsFewAsMayBe(t *testing.T) {
	for k := 1; k < 12; k++ {
		checkTake(t, strings.Repeat("\x80", k)+"\x00", 0, 0, api.ErrForm)
		checkTake(t, strings.Repeat("\xff", k)+"\x00", 0, 0, api.ErrForm)
		checkTake(t, strings.Repeat("\xff", k)+"\x00\x01", 0, 0, api.ErrForm)
	}
	checkTake(t, "\xac\x82\x00", 0, 0, api.ErrForm)
}

// A2: numbers above 2^53, in eight bytes and in more.
func TestTakeTooGreat(t *testing.T) {
	checkTake(t, "\x81\x80\x80\x80\x80\x80\x80\x10", 0, 0, api.ErrForm)
	checkTake(t, "\x80\x80\x80\x80\x80\x80\x81\x10", 0, 0, api.ErrForm)
	checkTake(t, "\x80\x80\x80\x80\x80\x80\x80\x11", 0, 0, api.ErrForm)
	checkTake(t, "\x80\x80\x80\x80\x80\x80\x80\x20", 0, 0, api.ErrForm)
	checkTake(t, "\x80\x80\x80\x80\x80\x80\x80\x7f", 0, 0, api.ErrForm)
	checkTake(t, "\xff\xff\xff\xff\xff\xff\xff\x7f", 0, 0, api.ErrForm)
	checkTake(t, "\x80\x80\x80\x80\x80\x80\x80\x80\x01", 0, 0, api.ErrForm)
	checkTake(t, "\xff\xff\xff\xff\xff\xff\xff\xff\x7f", 0, 0, api.ErrForm)
	checkTake(t, strings.Repeat("\x80", 9)+"\x01", 0, 0, api.ErrForm) // 2^63
	checkTake(t, strings.Repeat("\x80", 10)+"\x01", 0, 0, api.ErrForm)
}

// checkWords holds Take against the words, and against A3: what is taken, put again, is what stood there.
func checkWords(t *testing.T, s string) {
	t.Helper()
	wantN, wantK, wantE := wantTake(s)
	checkTake(t, s, wantN, wantK, wantE)
	if n, k, e := Take(s); e == api.OK {
		checkPut(t, n, s[:k], api.OK)
	}
}

// A2, A3: all texts of at most two bytes, and all of few signs that are at the edges.
func TestTakeByTheWords(t *testing.T) {
	checkWords(t, "")
	for a := range 256 {
		checkWords(t, string([]byte{byte(a)}))
		for b := range 256 {
			checkWords(t, string([]byte{byte(a), byte(b)}))
		}
	}
	texts := []string{""}
	for range 9 {
		var longer []string
		for _, s := range texts {
			for _, c := range []string{"\x00", "\x10", "\x80", "\xff"} {
				longer = append(longer, s+c)
			}
		}
		for _, s := range longer {
			checkWords(t, s)
		}
		texts = longer
	}
}

// A2, A3: each eighth byte behind seven that go on.
func TestTakeEighthByte(t *testing.T) {
	for low := range 1 << 7 {
		b := []byte("\x80\x80\x80\x80\x80\x80\x80\x00\x01")
		for i := range 7 {
			b[i] += byte(low >> i & 1)
		}
		for c := range 256 {
			b[7] = byte(c)
			checkWords(t, string(b[:8]))
			checkWords(t, string(b))
		}
	}
}

// A3: what was put is taken, whatever stands behind it; cut off it is ErrCut.
func TestPutTaken(t *testing.T) {
	for _, n := range many() {
		s, e := Put(n)
		if e != api.OK {
			t.Fatalf("Put(%d): error %d", n, e)
		}
		for _, behind := range []string{"", "\x00", "\x01", "\x7f", "\x80", "\xff", s, "\x80\x00", "behind"} {
			checkTake(t, s+behind, n, len(s), api.OK)
		}
		for k := range len(s) {
			checkTake(t, s[:k], 0, 0, api.ErrCut)
		}
	}
}

// A3: numbers one behind the other are taken one by one.
func TestManyTakenOneByOne(t *testing.T) {
	var all strings.Builder
	for _, n := range edges() {
		s, _ := Put(n)
		all.WriteString(s)
	}
	s := all.String()
	for _, want := range edges() {
		n, k, e := Take(s)
		if n != want || e != api.OK {
			t.Fatalf("Take = %d, %d; want %d", n, e, want)
		}
		s = s[k:]
	}
	if s != "" {
		t.Errorf("%q is left", s)
	}
}

// Who ranges over the bytes may stop at any of them.
func TestRangesMayBeLeft(t *testing.T) {
	for stop := range 8 {
		i := 0
		for range bytesOf(api.MaxNum) {
			if i == stop {
				break
			}
			i++
		}
		if i != stop {
			t.Errorf("bytesOf: left at %d, not %d", i, stop)
		}
		for i = range bytesAhead("\x80\x80\x80\x80\x80\x80\x80\x10") {
			if i == stop {
				break
			}
		}
		if i != stop {
			t.Errorf("bytesAhead: left at %d, not %d", i, stop)
		}
	}
}

func FuzzTake(f *testing.F) {
	for _, n := range edges() {
		f.Add(wantBytes(n))
	}
	f.Fuzz(checkWords)
}

func FuzzPut(f *testing.F) {
	for _, n := range edges() {
		f.Add(n)
	}
	f.Fuzz(func(t *testing.T, n int) {
		if n < 0 || n > api.MaxNum {
			checkPut(t, n, "", api.ErrArg)
			return
		}
		checkPut(t, n, wantBytes(n), api.OK)
		checkTake(t, wantBytes(n), n, len(wantBytes(n)), api.OK)
	})
}
