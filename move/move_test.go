package move

import (
	"math"
	"slices"
	"strings"
	"testing"

	"careen/api"
)

// Q1: parts of 100 bytes each, the last one of what is left: all lengths up to some, and great ones.
func TestSplit(t *testing.T) {
	sizes := []int{999, 1000, 1001, 3999, 4000, 4001, 100000, 1234567}
	for n := range 450 {
		sizes = append(sizes, n)
	}
	for _, n := range sizes {
		s := mixed(n)
		l := Split(s)
		if len(l) != (n+99)/100 || !slices.Equal(l, wantSplit(s)) {
			t.Errorf("%d bytes: %d parts", n, len(l))
		}
		for i, part := range l {
			if i < len(l)-1 && len(part) != 100 || part == "" || len(part) > 100 || part != s[100*i:100*i+len(part)] {
				t.Errorf("%d bytes: the part %d has %d", n, i, len(part))
			}
		}
		if Join(l) != s {
			t.Errorf("%d bytes: split and joined they are others", n)
		}
	}
}

// Q1: the edges, written out.
func TestSplitEdges(t *testing.T) {
	for _, x := range []struct {
		n    int
		want []int
	}{{0, nil}, {1, []int{1}}, {99, []int{99}}, {100, []int{100}}, {101, []int{100, 1}}, {199, []int{100, 99}}, {200, []int{100, 100}}, {201, []int{100, 100, 1}}} {
		var got []int
		for _, part := range Split(mixed(x.n)) {
			got = append(got, len(part))
		}
		if !slices.Equal(got, x.want) {
			t.Errorf("%d bytes: parts of %d; want %d", x.n, got, x.want)
		}
	}
	if l := Split("\x00\xff é"); !slices.Equal(l, []string{"\x00\xff é"}) {
		t.Error(l)
	}
	cut := strings.Repeat("é", 51) // bytes are counted, not signs
	if l := Split("x" + cut); len(l) != 2 || l[0]+l[1] != "x"+cut || len(l[1]) != 3 {
		t.Error(l)
	}
}

// Q1: Join takes parts as they are, of whatever lengths.
func TestJoin(t *testing.T) {
	for _, x := range []struct {
		l    []string
		want string
	}{{nil, ""}, {[]string{}, ""}, {[]string{""}, ""}, {[]string{"", "a", "", "b", ""}, "ab"}, {[]string{"b", "a", "b"}, "bab"}, {[]string{long(99), long(101), "y"}, long(200) + "y"}, {[]string{"\xff", "\x00"}, "\xff\x00"}, {[]string{long(12345)}, long(12345)}} {
		was := slices.Clone(x.l)
		if got := Join(x.l); got != x.want || !slices.Equal(x.l, was) {
			t.Errorf("Join(%s) = %s", say(x.l), say(got))
		}
		all := append(slices.Clone(x.l), "behind")
		if got := Join(all[:len(x.l)]); got != x.want || all[len(x.l)] != "behind" {
			t.Errorf("Join(%s), with something behind it, = %s", say(x.l), say(got))
		}
	}
}

// Q1: the parts of each Split are new memory, spare room too.
func TestSplitNewMemory(t *testing.T) {
	for _, n := range []int{0, 1, 100, 101, 250, 4000} {
		s := mixed(n)
		a, b := Split(s), Split(s)
		overwrite(a)
		if !slices.Equal(b, wantSplit(s)) || !slices.Equal(Split(s), b) || s != mixed(n) {
			t.Errorf("%d bytes: an answer is changed by another one", n)
		}
	}
}

// Q2: a move that is begun has nothing else, whatever the numbers are.
func TestBegin(t *testing.T) {
	numbers := []int{math.MinInt, -1, 0, 1, 2, 7, 8, 100, most, most + 1, math.MaxInt}
	for _, id := range numbers {
		for _, epoch := range numbers {
			m := Begin(id, epoch)
			if m.Shard != id || m.Epoch != epoch || m.Stage != api.MoveBegun || m.Version != 0 || len(m.Parts) != 0 || m.Come != 0 {
				t.Errorf("Begin(%d, %d) = %s", id, epoch, say(m))
			}
		}
	}
	a, b := Begin(2, 6), Begin(2, 6)
	overwrite(a.Parts)
	if !sameMove(b, begun()) {
		t.Error(b)
	}
}
