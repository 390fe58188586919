package route

import (
	"fmt"
	"hash/crc32"
	"math"
	"slices"
	"strings"
	"testing"

	"careen/api"
)

const most = 9007199254740992 // 2^53

// ways are ways: of each one its Owner, and its Epoch.
func ways(l ...int) []api.Way {
	var w []api.Way
	for i := 0; i < len(l); i += 2 {
		w = append(w, api.Way{Owner: l[i], Epoch: l[i+1]})
	}
	return w
}

// many are so many ways, all unlike.
func many(n int) []api.Way {
	var l []api.Way
	for i := range n {
		l = append(l, api.Way{Owner: 11 + i, Epoch: 5 + 3*i})
	}
	return l
}

// keys are keys of no bytes, short and long, of signs and of none, longer than there may be, too.
func keys() []string {
	l := []string{"", "a", "b", "ab", "ba", "abc", "123456789", "\x00", "\x00\x00", "\xff", "\xff\xff\xff\xff", "é", "世界", "\xc3", "\x80\x80", "a\xff", "x\x00y", "\n", "sixteen bytes is", "The quick brown fox jumps over the lazy dog"}
	for _, n := range []int{15, 16, 17, 100, 1000, 70000} {
		l = append(l, strings.Repeat("k", n), strings.Repeat("\x00", n))
	}
	for i := range 300 {
		l = append(l, fmt.Sprint("key", i))
	}
	for c := range 256 {
		l = append(l, string([]byte{byte(c)}))
	}
	return l
}

// counts are numbers of shards, and numbers that might be taken for one.
func counts() []int {
	return []int{-1, 0, 1, 2, 3, 4, 5, 6, 7, 8, 9, 10, -2, -8, 16, 255, 256, 257, 264, 1 << 16, 1 << 32, 1<<32 + 1, 1<<32 + 8, 8 - 1<<32, most, 1 << 62, math.MaxInt, math.MinInt, math.MinInt + 1, math.MinInt + 8}
}

// shards are numbers of a shard, and numbers that might be taken for one.
func shards() []int {
	return []int{0, 1, 2, 3, 4, 5, 6, 7, 8, 9, 10, 11, 12, 20, -1, -2, -7, -8, 127, 128, 255, 256, 257, 263, 1 << 16, 1 << 32, 1<<32 + 1, -1 << 32, 3 - 1<<32, most, math.MaxInt, math.MinInt, math.MinInt + 3}
}

// owners are those below, at and above the first one that may be: there is no last one.
func owners() []int {
	return []int{0, 1, -1, 2, 7, 100, 101, 256, -256, 1 << 32, -1 << 32, 1<<32 + 1, 1 - 1<<32, most, most + 1, -most, math.MaxInt, math.MinInt, math.MinInt + 1}
}

// epochs are those at both ends, those that might be taken for others, and those beside an epoch.
func epochs(beside int) []int {
	return []int{0, 1, 2, -1, -2, -5, beside - 1, beside, beside + 1, 255, 256, 257, 1 << 32, 1<<32 + 1, 1 - 1<<32, -1 << 32, most - 1, most, most + 1, most + 2, -most, 1 << 62, math.MaxInt, math.MinInt, math.MinInt + 1}
}

// lists are lists of ways: none, few, as many as there may be, and more; with ways of 0 and 0 between others; and with such as may not be.
func lists() [][]api.Way {
	l := [][]api.Way{nil, {}, ways(0, 0), ways(3, 5), ways(1, 1), ways(7, most), ways(0, 0, 4, 2), ways(3, 5, 0, 0), ways(3, 5, 0, 0, 4, 1), ways(0, 0, 0, 0, 9, 77, 0, 0), make([]api.Way, 7), make([]api.Way, 8), make([]api.Way, 12)}
	for _, n := range []int{2, 3, 6, 7, 8, 9, 10, 20, 300} {
		l = append(l, many(n))
	}
	for _, n := range []int{1, 2, 3, 4, 5, 6, 7} { // a way, and then none up to the last one
		w := make([]api.Way, 8)
		w[0], w[n] = api.Way{Owner: 6, Epoch: 9}, api.Way{Owner: 8, Epoch: most - 1}
		l = append(l, w, w[:n+1:n+1])
	}
	return append(l, wrongs()...)
}

// wrongs are lists of ways that nobody learnt: epochs that may not be, owners that may not be.
func wrongs() [][]api.Way {
	var l [][]api.Way
	for _, n := range []int{-1, -2, -5, -most, math.MinInt, most + 1, most + 2, 1 << 62, math.MaxInt} {
		l = append(l, ways(3, n), ways(3, 5, 4, n, 6, 2), ways(0, n, 0, 0, 0, n), slices.Repeat(ways(2, n), 8), slices.Repeat(ways(2, n), 10))
	}
	for _, n := range []int{0, -1, -9, most + 1, math.MaxInt, math.MinInt} {
		l = append(l, ways(n, 0), ways(n, 1), ways(n, 5, 3, 0, n, most))
	}
	return l
}

// errnos are all errors' numbers, written out, and the answers to them below the last time that one asks.
func errnos() map[api.Errno]int {
	return map[api.Errno]int{
		0: 0, 1: 0, 10: 3, 11: 3, 12: 3, 13: 3, 20: 3, 21: 3, 22: 0, 50: 0, 60: 3, 70: 0, 71: 0, 80: 2, 81: 0, 82: 1, 83: 2, 90: 2, 91: 3, 92: 3, 100: 3,
	}
}

// nones are numbers that are no errors', many of which might be taken for one.
func nones() []api.Errno {
	l := []api.Errno{-1, -2, -22, -80, -82, -90, 1 << 16, 1 << 32, 1<<32 + 1, 1<<32 + 82, 82 - 1<<32, most, math.MaxInt, math.MinInt, math.MinInt + 82}
	for n := range api.Errno(700) {
		if _, is := errnos()[n]; !is {
			l = append(l, n)
		}
	}
	return l
}

// wantShard is promise S1 by its words; the library's own sum was written apart from chapter 5's.
func wantShard(key string, shards int) int {
	switch shards {
	case 1, 2, 3, 4, 5, 6, 7, 8:
		return int(crc32.ChecksumIEEE([]byte(key)) % uint32(shards))
	}
	return 0
}

// wantLearn is promise S2 by its words: it tells the ways one by one, by their places.
func wantLearn(l []api.Way, shard, owner, epoch int) []api.Way {
	if shard < 0 || shard > 7 || owner < 1 || epoch < 1 || epoch > most {
		return l
	}
	var r []api.Way
	for i := 0; i < len(l) || i <= shard; i++ {
		var w api.Way
		if i < len(l) {
			w = l[i]
		}
		if i == shard && i < len(l) && w.Epoch >= epoch {
			return l
		}
		if i == shard {
			w.Owner, w.Epoch = owner, epoch
		}
		r = append(r, w)
	}
	return r
}

// wantLook is promise S2 by its words.
func wantLook(l []api.Way, shard int) (api.Way, bool) {
	for i, w := range l {
		if i == shard && w.Epoch >= 1 {
			return w, true
		}
	}
	return api.Way{}, false
}

// wantNext is promise S3 by its words, row by row.
func wantNext(e api.Errno, asks int) int {
	for _, row := range []struct {
		fits bool
		does int
	}{
		{slices.Contains([]api.Errno{0, 1, 22, 50, 70, 71, 81}, e), 0},
		{asks >= 5, 3},
		{slices.Contains([]api.Errno{80, 83, 90}, e), 2},
		{e == 82, 1},
	} {
		if row.fits {
			return row.does
		}
	}
	return 3
}

// say is anything in a few words.
func say(x any) string {
	return fmt.Sprintf("%.300s", fmt.Sprint(x))
}

// held is a list that stands between others, and what tells whether it, or one of those, was written into.
func held(l []api.Way) ([]api.Way, func() bool) {
	all := slices.Concat(ways(7, 7), l, ways(8, 8, 9, 9, 10, 10), make([]api.Way, 9))
	was := slices.Clone(all)
	return all[1 : 1+len(l)], func() bool { return !slices.Equal(all, was) }
}

// overwrite writes into all of a list, spare room too, and grows it.
func overwrite(l []api.Way) {
	over := api.Way{Owner: -7, Epoch: -7}
	all := l[:cap(l)]
	for i := range all {
		all[i] = over
	}
	_ = append(l, over, over)
}

func checkShard(t *testing.T, key string, shards, want int) {
	t.Helper()
	if n := Shard(key, shards); n != want {
		t.Errorf("Shard(%.40q, of %d bytes, %d) = %d; want %d", key, len(key), shards, n, want)
	}
}

// checkLearn holds Learn to an answer; and that what was handed in is not written into, and not kept; and that what comes out is new memory, where nothing is learnt, too.
func checkLearn(t *testing.T, l []api.Way, shard, owner, epoch int, want []api.Way) {
	t.Helper()
	call := fmt.Sprintf("Learn(%s, %d, %d, %d)", say(l), shard, owner, epoch)
	in, written := held(l)
	want = slices.Clone(want)
	a, b := Learn(in, shard, owner, epoch), Learn(in, shard, owner, epoch)
	if !slices.Equal(a, want) || !slices.Equal(b, want) || written() {
		t.Errorf("%s = %s, and again %s; want %s; was it written into? %v", call, say(a), say(b), say(want), written())
	}
	if overwrite(a); written() || !slices.Equal(b, want) {
		t.Errorf("%s gives out what was handed in, or one answer twice", call)
	}
	if overwrite(in); !slices.Equal(b, want) {
		t.Errorf("%s keeps what was handed in", call)
	}
}

// checkLearnt holds Learn against the words.
func checkLearnt(t *testing.T, l []api.Way, shard, owner, epoch int) {
	t.Helper()
	checkLearn(t, l, shard, owner, epoch, wantLearn(l, shard, owner, epoch))
}

// checkNothing holds Learn to a list as it was.
func checkNothing(t *testing.T, l []api.Way, shard, owner, epoch int) {
	t.Helper()
	checkLearn(t, l, shard, owner, epoch, l)
}

func checkLook(t *testing.T, l []api.Way, shard int, want api.Way, is bool) {
	t.Helper()
	in, written := held(l)
	for range 2 {
		if w, ok := Look(in, shard); w != want || ok != is || written() {
			t.Errorf("Look(%s, %d) = %v, %v; want %v, %v; was it written into? %v", say(l), shard, w, ok, want, is, written())
		}
	}
}

func checkNext(t *testing.T, e api.Errno, asks, want int) {
	t.Helper()
	if n := Next(e, asks); n != want {
		t.Errorf("Next(%d, %d) = %d; want %d", e, asks, n, want)
	}
}

// next is a number that looks like chance, the same in each run.
func next(seed *uint64) int {
	*seed = *seed*6364136223846793005 + 1442695040888963407
	return int(*seed >> 33)
}
