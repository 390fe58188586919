package route

import (
	"math"
	"slices"
	"strings"
	"testing"

	"careen/api"
)

// The chapter's example.
func TestExample(t *testing.T) {
	l := Learn(nil, 2, 5, 3)
	l = Learn(l, 2, 4, 2)
	checkLook(t, l, 2, api.Way{Owner: 5, Epoch: 3}, true)
	if !slices.Equal(l, ways(0, 0, 0, 0, 5, 3)) {
		t.Error(l)
	}
}

// S1: shards, written out.
func TestShardWrittenOut(t *testing.T) {
	for shards, want := range map[int]int{1: 0, 2: 0, 3: 2, 4: 2, 5: 2, 6: 2, 7: 5, 8: 6} { // 3421780262
		checkShard(t, "123456789", shards, want)
	}
	for shards, want := range map[int]int{1: 0, 2: 1, 3: 0, 4: 3, 5: 2, 6: 3, 7: 4, 8: 3} { // 3904355907
		checkShard(t, "a", shards, want)
	}
	for shards := 1; shards <= 8; shards++ {
		checkShard(t, "", shards, 0)
		checkShard(t, "\xff\xff\xff\xff", shards, 4294967295%shards)
		checkShard(t, "\x00", shards, 3523407757%shards)
		checkShard(t, strings.Repeat("\xff", 32), shards, 0xFF6CAB0B%shards)
	}
}

// S1: numbers of shards that there may not be.
func TestShardOfNone(t *testing.T) {
	for _, key := range keys() {
		for _, n := range []int{0, -1, -2, -8, 9, 10, 16, 257, 264, 1<<32 + 8, 8 - 1<<32, math.MaxInt, math.MinInt} {
			checkShard(t, key, n, 0)
		}
	}
}

// S1: all keys, and all numbers of shards.
func TestShardByTheWords(t *testing.T) {
	for _, key := range keys() {
		for _, n := range counts() {
			checkShard(t, key, n, wantShard(key, n))
		}
	}
}

// S2: Learn, written out: of no ways, of fewer than the shard's place, of just as many, and of more.
func TestLearnWrittenOut(t *testing.T) {
	for _, x := range []struct {
		l     []api.Way
		shard int
		want  []api.Way
	}{
		{nil, 0, ways(4, 6)},
		{[]api.Way{}, 0, ways(4, 6)},
		{nil, 1, ways(0, 0, 4, 6)},
		{nil, 7, ways(0, 0, 0, 0, 0, 0, 0, 0, 0, 0, 0, 0, 0, 0, 4, 6)},
		{ways(3, 5), 0, ways(4, 6)},
		{ways(3, 5), 1, ways(3, 5, 4, 6)},
		{ways(3, 5), 2, ways(3, 5, 0, 0, 4, 6)},
		{ways(3, 5), 7, ways(3, 5, 0, 0, 0, 0, 0, 0, 0, 0, 0, 0, 0, 0, 4, 6)},
		{ways(3, 5, 2, 9, 8, 1), 0, ways(4, 6, 2, 9, 8, 1)},
		{ways(3, 5, 2, 9, 8, 1), 1, ways(3, 5, 2, 9, 8, 1)},
		{ways(3, 5, 2, 9, 8, 1), 2, ways(3, 5, 2, 9, 4, 6)},
		{ways(3, 5, 2, 9, 8, 1), 3, ways(3, 5, 2, 9, 8, 1, 4, 6)},
		{ways(3, 5, 0, 0, 8, 1), 1, ways(3, 5, 4, 6, 8, 1)},
		{ways(0, 0, 0, 0), 0, ways(4, 6, 0, 0)},
		{ways(0, 0, 0, 0), 1, ways(0, 0, 4, 6)},
		{ways(0, 0, 0, 0), 2, ways(0, 0, 0, 0, 4, 6)},
	} {
		checkLearn(t, x.l, x.shard, 4, 6, x.want)
	}
}

// S2: an epoch that is less than, the same as, and more than what is known.
func TestLearnEpochs(t *testing.T) {
	for _, known := range []int{1, 2, 5, 255, 256, 1 << 32, most - 1, most} {
		l := ways(9, 9, 3, known, 8, 8)
		for _, epoch := range epochs(known) {
			want := l
			if epoch > known && epoch <= most {
				want = ways(9, 9, 4, epoch, 8, 8)
			}
			checkLearn(t, l, 1, 4, epoch, want)
		}
		checkNothing(t, l, 1, 4, known)
		checkNothing(t, l, 1, 4, known-1)
		checkNothing(t, l, 1, 3, known)
	}
	for _, known := range []int{0, -1, -5, -most, math.MinInt} { // whatever may be learnt is later
		l := ways(9, 9, 3, known, 8, 8)
		checkLearn(t, l, 1, 4, 1, ways(9, 9, 4, 1, 8, 8))
		checkLearn(t, l, 1, 4, most, ways(9, 9, 4, most, 8, 8))
		checkNothing(t, l, 1, 4, 0)
		checkNothing(t, l, 1, 4, -1)
	}
	for _, known := range []int{most, most + 1, most + 2, 1 << 62, math.MaxInt} { // nothing that may be learnt is
		for _, epoch := range epochs(known) {
			checkNothing(t, ways(9, 9, 3, known, 8, 8), 1, 4, epoch)
		}
	}
}

// S2: the same owner, in a later epoch, and another one, is learnt alike.
func TestLearnOwners(t *testing.T) {
	l := ways(9, 9, 3, 5, 8, 8)
	for _, owner := range []int{1, 2, 3, 9, 100, 101, 256, 1 << 32, most, most + 1, math.MaxInt} {
		checkLearn(t, l, 1, owner, 6, ways(9, 9, owner, 6, 8, 8))
		checkLearn(t, l, 5, owner, 6, ways(9, 9, 3, 5, 8, 8, 0, 0, 0, 0, owner, 6))
		checkNothing(t, l, 1, owner, 5)
	}
	for _, owner := range []int{0, -1, -3, -256, 1 - 1<<32, -most, math.MinInt, math.MinInt + 1} {
		checkNothing(t, l, 1, owner, 6)
		checkNothing(t, l, 5, owner, 6)
		checkNothing(t, nil, 0, owner, 1)
	}
}

// S2: shards that there may not be, those that a list has a place of, too.
func TestLearnNoShard(t *testing.T) {
	for _, l := range [][]api.Way{nil, {}, ways(3, 5), many(7), many(8), many(9), many(10), many(300), make([]api.Way, 12)} {
		for _, shard := range []int{-1, -2, -7, -8, 8, 9, 10, 11, 255, 256, 257, 1 << 32, 1<<32 + 1, 3 - 1<<32, math.MaxInt, math.MinInt} {
			checkNothing(t, l, shard, 4, 1)
			checkNothing(t, l, shard, 4, most)
		}
	}
}

// S2: of a list that is longer than there may be shards all behind it stays.
func TestLearnLongList(t *testing.T) {
	for _, n := range []int{8, 9, 10, 20, 300} {
		for shard := range 8 {
			want := many(n)
			want[shard] = api.Way{Owner: 4, Epoch: 1000}
			checkLearn(t, many(n), shard, 4, 1000, want)
			checkNothing(t, many(n), shard, 4, 1)
		}
	}
}

// S2: all that may be wrong at once, and what is right.
func TestLearnAllFaults(t *testing.T) {
	for faults := range 1 << 4 {
		has := func(i int) bool { return faults>>i&1 == 1 }
		l, list := ways(9, 9, 3, 5, 8, 8), [][3]int{{1, 4, 6}}
		wrong := func(at int, numbers ...int) {
			var next [][3]int
			for _, x := range list {
				for _, n := range numbers {
					x[at] = n
					next = append(next, x)
				}
			}
			list = next
		}
		if has(0) {
			wrong(0, -1, 8, math.MaxInt, math.MinInt)
		}
		if has(1) {
			wrong(1, 0, -1, math.MinInt)
		}
		if has(2) {
			wrong(2, 0, -1, most+1, math.MaxInt, math.MinInt)
		}
		if has(3) { // it is known already
			l[1].Epoch = most
		}
		for _, x := range list {
			want := l
			if faults == 0 {
				want = ways(9, 9, 4, 6, 8, 8)
			}
			checkLearn(t, l, x[0], x[1], x[2], want)
		}
	}
}

// S2: all lists, all shards, all owners, all epochs.
func TestLearnByTheWords(t *testing.T) {
	learnt := 0
	for _, l := range lists() {
		for _, shard := range shards() {
			known, _ := wantLook(l, shard)
			for _, owner := range owners() {
				for _, epoch := range epochs(known.Epoch) {
					want := wantLearn(l, shard, owner, epoch)
					if got := Learn(l, shard, owner, epoch); !slices.Equal(got, want) {
						t.Errorf("Learn(%s, %d, %d, %d) = %s; want %s", say(l), shard, owner, epoch, say(got), say(want))
					}
					if !slices.Equal(want, l) {
						learnt++
					}
				}
			}
			checkLearnt(t, l, shard, 4, known.Epoch+1)
			checkLearnt(t, l, shard, 4, most)
			checkLearnt(t, l, shard, 0, most)
		}
	}
	if learnt < 10000 {
		t.Error(learnt, "are learnt alone")
	}
}

// S2: Look, written out.
func TestLookWrittenOut(t *testing.T) {
	l := ways(3, 5, 0, 0, 4, 1, 9, 0, 8, -1, 7, most, 0, 6)
	for shard, want := range []api.Way{{Owner: 3, Epoch: 5}, {}, {Owner: 4, Epoch: 1}, {}, {}, {Owner: 7, Epoch: most}, {Epoch: 6}, {}, {}} {
		checkLook(t, l, shard, want, want.Epoch > 0)
	}
	for _, l := range [][]api.Way{nil, {}, ways(3, 5), many(7), many(8)} {
		for _, shard := range []int{-1, -2, -len(l), -len(l) - 1, len(l), len(l) + 1, 8, 9, 256, 1 << 32, 1<<32 + 1, -1 << 32, math.MaxInt, math.MinInt} {
			if shard != 0 {
				checkLook(t, l, shard, api.Way{}, false)
			}
		}
	}
	for _, n := range []int{0, -1, -2, -most, math.MinInt, math.MinInt + 1} {
		checkLook(t, ways(3, n), 0, api.Way{}, false)
		checkLook(t, slices.Repeat(ways(3, n), 9), 7, api.Way{}, false)
	}
	for _, n := range []int{1, 2, most - 1, most, most + 1, 1 << 62, math.MaxInt} {
		checkLook(t, ways(3, n), 0, api.Way{Owner: 3, Epoch: n}, true)
		checkLook(t, ways(-3, n), 0, api.Way{Owner: -3, Epoch: n}, true)
	}
}

// S2: all lists, and all shards.
func TestLookByTheWords(t *testing.T) {
	for _, l := range lists() {
		for _, shard := range append(shards(), len(l)-1, len(l), len(l)+1) {
			want, is := wantLook(l, shard)
			checkLook(t, l, shard, want, is)
		}
	}
}

// S3: the numbers of what one does, and the errors by their names.
func TestNextWrittenOut(t *testing.T) {
	if api.DoDone != 0 || api.DoAgain != 1 || api.DoLearn != 2 || api.DoGive != 3 || api.MaxAsks != 5 {
		t.Error("other numbers")
	}
	for _, asks := range []int{0, 1, 4, 5, 6} {
		for _, e := range []api.Errno{api.OK, api.ErrArg, api.ErrVersion, api.ErrFull, api.ErrNone, api.ErrRev, api.ErrStale} {
			checkNext(t, e, asks, api.DoDone)
		}
		for _, e := range []api.Errno{api.ErrCut, api.ErrForm, api.ErrLong, api.ErrTags, api.ErrKey, api.ErrKnown, api.ErrFar, api.ErrUp, api.ErrBusy, api.ErrLine, 2, 99, 101, 255, 256, -1} {
			checkNext(t, e, asks, api.DoGive)
		}
	}
	for asks, gives := range map[int]bool{-1: false, 0: false, 1: false, 4: false, 5: true, 6: true, math.MinInt: false, math.MaxInt: true} {
		learn, again := api.DoLearn, api.DoAgain
		if gives {
			learn, again = api.DoGive, api.DoGive
		}
		for _, e := range []api.Errno{api.ErrEpoch, api.ErrShard, api.ErrDown} {
			checkNext(t, e, asks, learn)
		}
		checkNext(t, api.ErrFrozen, asks, again)
	}
}

// S3: each error's number, and numbers that are none, at each time that one asks.
func TestNextByTheWords(t *testing.T) {
	for _, asks := range []int{-1, 0, 1, 2, 3, 4, 5, 6, 7, 10, -2, -5, -6, 255, 256, 257, 1 << 32, 1<<32 + 1, 1<<32 + 5, 4 - 1<<32, 1 << 53, math.MaxInt, math.MinInt, math.MinInt + 5} {
		for e, does := range errnos() {
			if asks >= 5 && does != api.DoDone {
				does = api.DoGive
			}
			checkNext(t, e, asks, does)
			checkNext(t, e, asks, wantNext(e, asks))
		}
		for _, e := range nones() {
			checkNext(t, e, asks, api.DoGive)
			checkNext(t, e, asks, wantNext(e, asks))
		}
	}
}
