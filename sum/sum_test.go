package sum

import (
	"hash/crc32"
	"math"
	"slices"
	"strings"
	"testing"
)

// wantOf is a text's sum as promise E1's words have it.
func wantOf(s string) int {
	n := 4294967295
	for _, c := range []byte(s) {
		n ^= int(c)
		for range 8 {
			odd := n%2 == 1
			n /= 2
			if odd {
				n ^= 3988292384
			}
		}
	}
	return 4294967295 - n
}

// wantBytes are a number's bytes as promise E2's words have them.
func wantBytes(n int) string {
	if n < 0 || n > 4294967295 {
		return ""
	}
	return string([]byte{byte(n % 256), byte(n / 256 % 256), byte(n / 65536 % 256), byte(n / 16777216)})
}

func checkOf(t *testing.T, s string, want int) {
	t.Helper()
	if n := Of(s); n != want {
		t.Errorf("Of(%.40q, of %d bytes) = %d; want %d", s, len(s), n, want)
	}
}

func checkBytes(t *testing.T, n int, want string) {
	t.Helper()
	if s := Bytes(n); s != want {
		t.Errorf("Bytes(%d) = %q; want %q", n, s, want)
	}
}

// checkWords holds a text's sum against the words, and against the library's, which was written apart from them.
func checkWords(t *testing.T, s string) {
	t.Helper()
	checkOf(t, s, wantOf(s))
	checkOf(t, s, int(crc32.ChecksumIEEE([]byte(s))))
}

// mixture is a text of that many bytes, all values among them, in no plain order.
func mixture(size int) string {
	b := make([]byte, size)
	state := uint32(size)*2654435761 + 12345
	for i := range b {
		state = state*1664525 + 1013904223
		b[i] = byte(state >> 24)
	}
	return string(b)
}

// changed is a text, some bytes of which, from a place on, are others.
func changed(s string, at int, flips ...byte) string {
	b := []byte(s)
	for i, c := range flips {
		b[at+i] ^= c
	}
	return string(b)
}

// bases are texts of several lengths, in which bytes are changed.
func bases() []string {
	return []string{
		"ab", "abc", "abcd", "hello", "\x00\x00\x00\x00", "\xff\xff\xff\xff",
		strings.Repeat("\x00", 41), strings.Repeat("\xff", 64), strings.Repeat("abc", 40), mixture(256), mixture(500),
	}
}

// places are where a change of that many bytes may stand in a text: at the beginning, about the middle, at the end.
func places(s string, size int) []int {
	last := len(s) - size
	if last < 0 {
		return nil
	}
	l := []int{0, min(1, last), last / 2, max(last-1, 0), last}
	slices.Sort(l)
	return slices.Compact(l)
}

// E1: sums, written out.
func TestOfWrittenOut(t *testing.T) {
	checkOf(t, "123456789", 3421780262)
	checkOf(t, "", 0)
	checkOf(t, "a", 0xE8B7BE43)
	checkOf(t, "abc", 0x352441C2)
	checkOf(t, "\x00", 0xD202EF8D)
	checkOf(t, "\xff", 0xFF000000)
	checkOf(t, "\x00\x00\x00\x00", 0x2144DF1C)
	checkOf(t, "\xff\xff\xff\xff", 0xFFFFFFFF)
	checkOf(t, strings.Repeat("\x00", 32), 0x190A55AD)
	checkOf(t, strings.Repeat("\xff", 32), 0xFF6CAB0B)
	checkOf(t, "The quick brown fox jumps over the lazy dog", 0x414FA339)
}

// E1: one byte of each value; no two have one sum.
func TestOfOneByte(t *testing.T) {
	seen := map[int]int{}
	for c := range 256 {
		s := string([]byte{byte(c)})
		checkWords(t, s)
		if d, ok := seen[Of(s)]; ok {
			t.Errorf("the bytes %d and %d have one sum", c, d)
		}
		seen[Of(s)] = c
	}
}

// E1: texts of all lengths up to some hundred bytes, and those beside them.
func TestOfByTheWords(t *testing.T) {
	for size := range 600 {
		checkWords(t, mixture(size))
	}
	for _, s := range bases() {
		checkWords(t, s)
	}
}

// E1: bytes are meant, whether they are signs' or not.
func TestOfBytesThatAreNoSigns(t *testing.T) {
	for _, s := range []string{"é", "世界", "\xc3", "\x80\x80", "a\xff", "\xed\xa0\x80", "\ufffd", "x\x00y", "\n", "\xe4\xb8", "😀"} {
		checkWords(t, s)
	}
}

// E1: all texts of two bytes.
func TestOfTwoBytes(t *testing.T) {
	for a := range 256 {
		for b := range 256 {
			checkWords(t, string([]byte{byte(a), byte(b)}))
		}
	}
}

// E1: long texts.
func TestOfLong(t *testing.T) {
	for _, size := range []int{4000, 4095, 65535, 65536, 100000, 1 << 20} {
		checkWords(t, mixture(size))
		checkWords(t, strings.Repeat("\x00", size))
		checkWords(t, strings.Repeat("\xff", size))
	}
}

// E1: the order of bytes tells, and so do noughts ahead and behind.
func TestOfOrder(t *testing.T) {
	for _, p := range [][2]string{{"ab", "ba"}, {"\x00\x01", "\x01\x00"}, {"", "\x00"}, {"\x00", "\x00\x00"}, {"a", "a\x00"}, {"a", "\x00a"}, {"abcabc", "abc"}} {
		if Of(p[0]) == Of(p[1]) {
			t.Errorf("%q and %q have one sum", p[0], p[1])
		}
	}
}

// E1: a sum is a number of 32 bits, which has bytes (E2), and the sum of a text with its own sum's bytes behind it is always the same one.
func TestOfHasBytes(t *testing.T) {
	for size := range 300 {
		s := mixture(size)
		n := Of(s)
		if n < 0 || n > 4294967295 || len(Bytes(n)) != 4 {
			t.Fatalf("Of(%q) = %d", s, n)
		}
		checkOf(t, s+Bytes(n), 0x2144DF1C)
	}
}

// E1: a sum hangs on its text alone, whatever was asked ahead.
func TestOfAgain(t *testing.T) {
	for _, s := range bases() {
		n := Of(s)
		Of("something else")
		Bytes(7)
		checkOf(t, s, n)
		checkOf(t, strings.Clone(s), n)
		checkOf(t, ("x" + s + "y")[1:len(s)+1], n)
	}
}

// E2: bytes, written out, those beside the least and the greatest number among them.
func TestBytesWrittenOut(t *testing.T) {
	checkBytes(t, 0, "\x00\x00\x00\x00")
	checkBytes(t, 1, "\x01\x00\x00\x00")
	checkBytes(t, 255, "\xff\x00\x00\x00")
	checkBytes(t, 256, "\x00\x01\x00\x00")
	checkBytes(t, 65535, "\xff\xff\x00\x00")
	checkBytes(t, 65536, "\x00\x00\x01\x00")
	checkBytes(t, 1<<24-1, "\xff\xff\xff\x00")
	checkBytes(t, 1<<24, "\x00\x00\x00\x01")
	checkBytes(t, 0x04030201, "\x01\x02\x03\x04")
	checkBytes(t, 0xEDB88320, "\x20\x83\xb8\xed")
	checkBytes(t, 3421780262, "\x26\x39\xf4\xcb")
	checkBytes(t, 1<<31-1, "\xff\xff\xff\x7f")
	checkBytes(t, 1<<31, "\x00\x00\x00\x80")
	checkBytes(t, 1<<32-2, "\xfe\xff\xff\xff")
	checkBytes(t, 1<<32-1, "\xff\xff\xff\xff")
}

// E2: numbers that have no bytes.
func TestBytesOfNone(t *testing.T) {
	for _, n := range []int{
		-1, -2, -255, -256, -1 << 24, -1 << 31, -1<<31 - 1, -1<<32 + 1, -1 << 32, -1<<32 - 1, -1 << 53, math.MinInt + 1, math.MinInt,
		1 << 32, 1<<32 + 1, 1<<32 + 255, 1<<32 + 1<<31, 1<<33 - 1, 1 << 33, 1 << 40, 1 << 53, 1 << 62, math.MaxInt - 1, math.MaxInt,
	} {
		checkBytes(t, n, "")
	}
}

// E2: as the words have it, all over the numbers; and no two numbers have the same bytes.
func TestBytesByTheWords(t *testing.T) {
	seen := map[string]int{}
	check := func(n int) {
		s := Bytes(n)
		checkBytes(t, n, wantBytes(n))
		if m, ok := seen[s]; ok && m != n {
			t.Errorf("%d and %d have the same bytes", n, m)
		}
		seen[s] = n
	}
	for n := range 70000 {
		check(n)
		check(4294967295 - n)
	}
	for n := 1; n < 1<<32; n += n/900 + 1 {
		check(n)
	}
	for bit := range 32 {
		check(1 << bit)
		check(4294967295 - 1<<bit)
	}
}

// checkUnlike holds a text against one in which some bytes are others.
func checkUnlike(t *testing.T, s string, at int, flips ...byte) {
	t.Helper()
	if o := changed(s, at, flips...); o == s || Of(o) == Of(s) {
		t.Errorf("%.40q, of %d bytes: changed at %d by %v: one sum", s, len(s), at, flips)
	}
}

// E3: unlike in one byte, by all that it may be, at each place.
func TestUnlikeInOneByte(t *testing.T) {
	for _, s := range append(bases(), "a", "\x00", "\xff") {
		for _, at := range places(s, 1) {
			for flip := 1; flip < 256; flip++ {
				checkUnlike(t, s, at, byte(flip))
			}
		}
	}
	for _, s := range []string{strings.Repeat("abc", 40), mixture(100)} {
		for at := range len(s) {
			for flip := 1; flip < 256; flip++ {
				checkUnlike(t, s, at, byte(flip))
			}
		}
	}
}

// E3: unlike in two bytes that stand side by side, by all that they may be.
func TestUnlikeInTwoBytes(t *testing.T) {
	for _, s := range []string{"ab", "\x00\x00", "hello", mixture(30)} {
		for _, at := range places(s, 2) {
			for flips := 1; flips < 1<<16; flips++ {
				checkUnlike(t, s, at, byte(flips), byte(flips>>8))
			}
		}
	}
}

// E3: unlike in bytes of which the first and the last one are one, two and three apart, with and without others between.
func TestUnlikeInBytesNearBy(t *testing.T) {
	ends := []byte{1, 2, 3, 16, 127, 128, 129, 254, 255}
	between := []byte{0, 1, 85, 128, 255}
	for _, s := range bases() {
		for _, first := range ends {
			for _, last := range ends {
				for _, at := range places(s, 2) {
					checkUnlike(t, s, at, first, last)
				}
				for _, x := range between {
					for _, at := range places(s, 3) {
						checkUnlike(t, s, at, first, x, last)
					}
					for _, y := range between {
						for _, at := range places(s, 4) {
							checkUnlike(t, s, at, first, x, y, last)
						}
					}
				}
			}
		}
	}
}

// E3: long texts, unlike at the beginning, in the middle and at the end.
func TestUnlikeInLong(t *testing.T) {
	for _, s := range []string{mixture(4000), mixture(100000), strings.Repeat("\x00", 100000)} {
		for _, flips := range []string{"\x01", "\x80", "\xff", "\x01\x01", "\x80\xff", "\x01\x00\x80", "\xff\x55\xff", "\x01\x00\x00\x80", "\x80\x00\x00\x01", "\xff\xff\xff\xff"} {
			for _, at := range places(s, len(flips)) {
				checkUnlike(t, s, at, []byte(flips)...)
			}
		}
	}
}

// E3: as long, unlike by all changes within four bytes of which each one is one of few: no two of these texts have one sum.
func TestUnlikeAmongOneAnother(t *testing.T) {
	flips := []byte{0, 1, 2, 64, 127, 128, 200, 254, 255}
	for _, s := range bases() {
		for _, at := range places(s, 4) {
			seen := map[int]string{}
			for _, a := range flips {
				for _, b := range flips {
					for _, c := range flips {
						for _, d := range flips {
							o := changed(s, at, a, b, c, d)
							if other, ok := seen[Of(o)]; ok {
								t.Fatalf("%.40q and %.40q have one sum", o, other)
							}
							seen[Of(o)] = o
						}
					}
				}
			}
			if len(seen) != len(flips)*len(flips)*len(flips)*len(flips) {
				t.Errorf("%.40q: %d sums", s, len(seen))
			}
		}
	}
}

// rank is how many of the numbers are not exclusive ors of others ahead of them.
func rank(l []int) int {
	var lows []int // no two with the same highest bit
	for _, n := range l {
		for _, m := range lows {
			n = min(n, n^m)
		}
		if n != 0 {
			lows = append(lows, n)
			slices.SortFunc(lows, func(a, b int) int { return b - a })
		}
	}
	return len(lows)
}

// E3: a change by an exclusive or of flips changes the sum by the exclusive or of what each of them does.
func TestChangesAreAdded(t *testing.T) {
	for _, s := range bases() {
		o := mixture(len(s))
		both := changed(s, 0, []byte(o)...)
		nought := strings.Repeat("\x00", len(s))
		checkOf(t, both, Of(s)^Of(o)^Of(nought))
	}
}

// E3: what the 32 bits of four bytes do to a sum, each alone, are 32 numbers of which no exclusive or is 0: so (see TestChangesAreAdded) no change within four bytes leaves the sum as it was.
func TestAllChangesWithinFourBytes(t *testing.T) {
	for _, s := range bases() {
		for _, at := range places(s, 4) {
			var l []int
			for bit := range 32 {
				var flips [4]byte
				flips[bit/8] = 1 << (bit % 8)
				l = append(l, Of(s)^Of(changed(s, at, flips[:]...)))
			}
			if r := rank(l); r != 32 {
				t.Errorf("%.40q: changes at %d: rank %d", s, at, r)
			}
		}
	}
}

func FuzzOf(f *testing.F) {
	for _, s := range bases() {
		f.Add(s)
	}
	f.Fuzz(checkWords)
}

func FuzzBytes(f *testing.F) {
	for _, n := range []int{-1, 0, 1, 1<<32 - 1, 1 << 32} {
		f.Add(n)
	}
	f.Fuzz(func(t *testing.T, n int) { checkBytes(t, n, wantBytes(n)) })
}

func FuzzUnlike(f *testing.F) {
	f.Add("hello", 0, uint32(1))
	f.Add(mixture(100), 50, uint32(1<<31))
	f.Fuzz(func(t *testing.T, s string, at int, flips uint32) {
		if len(s) < 4 || at < 0 || at > len(s)-4 || flips == 0 {
			return
		}
		checkUnlike(t, s, at, byte(flips), byte(flips>>8), byte(flips>>16), byte(flips>>24))
	})
}
