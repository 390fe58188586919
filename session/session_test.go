package session

import (
	"fmt"
	"math"
	"slices"
	"testing"

	"careen/api"
)

const most = 9007199254740992 // 2^53

// ses is a session, in few words.
func ses(next, seen int, ahead ...int) api.Session {
	return api.Session{Next: next, Seen: seen, Ahead: ahead}
}

// numbers are those at which Next, Seen or what comes becomes one that may not be, and those that might be taken for others.
func numbers() []int {
	return []int{
		-1, 0, 1, 2, 3, 5, 63, 64, 65, 66, 67, 100, -2, -64, -65, 255, 256, 257, 1 << 16, math.MaxInt32, math.MinInt32, 1 << 32, 1<<32 + 1, 1 - 1<<32,
		most - 130, most - 66, most - 65, most - 64, most - 63, most - 2, most - 1, most, most + 1, most + 2, most + 64, most + 65, -most, 1 - most,
		1 << 62, math.MaxInt - 65, math.MaxInt - 64, math.MaxInt - 63, math.MaxInt - 1, math.MaxInt, math.MinInt, math.MinInt + 1, math.MinInt + 64,
	}
}

// seens are those of numbers that Seen may be.
func seens() []int {
	var l []int
	for _, n := range numbers() {
		if n >= 0 && n <= most {
			l = append(l, n)
		}
	}
	return l
}

// aheads are lists at all edges above a number: those that may be what came ahead of it, and those that may not.
func aheads(seen int) [][]int {
	l := [][]int{nil, {}, {0}, {-1}, {1}, {most}, {most + 1}, {math.MaxInt}, {math.MinInt}}
	for _, a := range []int{-64, -1, 0, 1, 2, 3, 63, 64, 65, 66, 1 << 32, 1<<32 + 2} {
		l = append(l, []int{seen + a})
		for _, b := range []int{-1, 0, 1, 2, 3, 4, 5, 62, 63, 64, 65, 66, 1<<32 + 3} {
			l = append(l, []int{seen + a, seen + b}, []int{seen + 2, seen + a, seen + b}, []int{seen + a, seen + b, seen + 64})
		}
	}
	all := run(seen+2, seen+64)
	return append(l, all, run(seen+1, seen+64), run(seen+2, seen+65), every(seen+2, seen+64, 2), every(seen+3, seen+64, 2), append([]int{seen + 2}, all...), append(run(seen+2, seen+64), seen+64), slices.Concat(run(seen+2, seen+30), run(seen+29, seen+64)))
}

// run is all numbers from one to another one.
func run(from, to int) []int {
	return every(from, to, 1)
}

// every is each step-th number from one to another one.
func every(from, to, step int) []int {
	var l []int
	for i := 0; i <= to-from; i += step { // from + i may wrap round, the difference of the two does not
		l = append(l, from+i)
	}
	return l
}

// rights are sessions that may be, at all edges.
func rights() []api.Session {
	var l []api.Session
	for _, seen := range seens() {
		for i, a := range aheads(seen) {
			if s := ses([]int{1, 2, 9, most - 1, most}[i%5], seen, a...); wantRight(s) {
				l = append(l, s)
			}
		}
	}
	return l
}

// wrongs are sessions that may not be: by one number, or by several.
func wrongs() []api.Session {
	var l []api.Session
	for _, n := range numbers() {
		for _, seen := range numbers() {
			for _, a := range [][]int{nil, {3}, {seen + 2}, {seen + 1}} {
				if s := ses(n, seen, a...); !wantRight(s) {
					l = append(l, s)
				}
			}
		}
	}
	for _, seen := range seens() {
		for _, a := range aheads(seen) {
			if s := ses(7, seen, a...); !wantRight(s) {
				l = append(l, s)
			}
		}
	}
	return l
}

// wantRight is promise J1 by its words.
func wantRight(s api.Session) bool {
	if s.Next < 1 || s.Next > most || s.Seen < 0 || s.Seen > most {
		return false
	}
	for i, n := range s.Ahead {
		if n > most || i > 0 && n <= s.Ahead[i-1] {
			return false
		}
	}
	k := len(s.Ahead)
	return k == 0 || s.Ahead[0] >= s.Seen+2 && s.Ahead[k-1] <= s.Seen+64
}

// wantTake is promise J3 by its words: each number above Seen, one by one, whether it came.
func wantTake(s api.Session, seq int) (api.Session, bool, api.Errno) {
	if !wantRight(s) || seq < 1 || seq > most {
		return s, false, 1
	}
	if seq-s.Seen > 64 {
		return s, false, 60
	}
	if came(s, seq) {
		return s, false, 0
	}
	r := ses(s.Next, s.Seen)
	for came(s, r.Seen+1) || r.Seen+1 == seq {
		r.Seen++
	}
	for n := r.Seen + 1; n <= s.Seen+64; n++ {
		if came(s, n) || n == seq {
			r.Ahead = append(r.Ahead, n)
		}
	}
	return r, true, 0
}

// came tells whether a number is among what came.
func came(s api.Session, seq int) bool {
	for _, n := range s.Ahead {
		if n == seq {
			return true
		}
	}
	return seq <= s.Seen
}

// alike tells whether two sessions are the same (R2: a list without elements may be nil or not).
func alike(a, b api.Session) bool {
	return a.Next == b.Next && a.Seen == b.Seen && slices.Equal(a.Ahead, b.Ahead)
}

// held is a session whose Ahead stands between other numbers, and what tells whether any of them was written into.
func held(s api.Session) (api.Session, func() bool) {
	was := slices.Concat([]int{77, 78}, s.Ahead, []int{79, 80, 81})
	now := slices.Clone(was)
	s.Ahead = now[2 : 2+len(s.Ahead)]
	return s, func() bool { return !slices.Equal(now, was) }
}

// overwrite writes into all of a session's Ahead, spare room too, and grows it.
func overwrite(s api.Session) {
	l := s.Ahead[:cap(s.Ahead)]
	for i := range l {
		l[i] = -5
	}
	_ = append(s.Ahead, -6, -6)
}

func checkRight(t *testing.T, s api.Session, want bool) {
	t.Helper()
	if Right(s) != want {
		t.Errorf("Right(%v) = %v; want %v", s, !want, want)
	}
}

func checkStamp(t *testing.T, s, want api.Session, n int, e api.Errno) {
	t.Helper()
	in, written := held(s)
	r, m, f := Stamp(in)
	if !alike(r, want) || m != n || f != e {
		t.Errorf("Stamp(%v) = %v, %d, %d; want %v, %d, %d", s, r, m, f, want, n, e)
	}
	if written() {
		t.Errorf("Stamp(%v) wrote into it", s)
	}
	if f != api.OK {
		return
	}
	if overwrite(r); written() {
		t.Errorf("Stamp(%v) gives out what was handed in", s)
	}
}

func checkTake(t *testing.T, s api.Session, seq int, want api.Session, is bool, e api.Errno) {
	t.Helper()
	in, written := held(s)
	r, ok, f := Take(in, seq)
	if !alike(r, want) || ok != is || f != e {
		t.Errorf("Take(%v, %d) = %v, %v, %d; want %v, %v, %d", s, seq, r, ok, f, want, is, e)
	}
	if written() {
		t.Errorf("Take(%v, %d) wrote into it", s, seq)
	}
	if !ok {
		return
	}
	if overwrite(r); written() {
		t.Errorf("Take(%v, %d) gives out what was handed in", s, seq)
	}
}

// checkNew holds Take to a number that is new.
func checkNew(t *testing.T, s api.Session, seq, seen int, ahead ...int) {
	t.Helper()
	checkTake(t, s, seq, ses(s.Next, seen, ahead...), true, api.OK)
}

// checkOld holds Take to a number that came before.
func checkOld(t *testing.T, s api.Session, seq int) {
	t.Helper()
	checkTake(t, s, seq, s, false, api.OK)
}

// checkErr holds Take to an error: the session as it was, and nothing else.
func checkErr(t *testing.T, s api.Session, seq int, e api.Errno) {
	t.Helper()
	checkTake(t, s, seq, s, false, e)
}

// checkWords holds Take against the words.
func checkWords(t *testing.T, s api.Session, seq int) {
	t.Helper()
	r, is, e := wantTake(s, seq)
	checkTake(t, s, seq, r, is, e)
}

// The chapter's example.
func TestExample(t *testing.T) {
	s := New()
	for i, seq := range []int{1, 3, 2, 3} {
		r, is, e := Take(s, seq)
		if is != (i < 3) || e != api.OK {
			t.Errorf("Take(%v, %d) = %v, %v, %d", s, seq, r, is, e)
		}
		s = r
	}
	if !alike(s, ses(1, 3)) {
		t.Errorf("behind 1, 3, 2, 3: %v", s)
	}
}

// J1: at the beginning.
func TestNew(t *testing.T) {
	if s := New(); !alike(s, ses(1, 0)) {
		t.Errorf("New() = %v", s)
	}
	checkRight(t, New(), true)
}

// J1: Next and Seen, written out.
func TestRightNumbers(t *testing.T) {
	for _, seen := range []int{0, 1, 64, most - 1, most} {
		for _, next := range []int{1, 2, most - 1, most} {
			checkRight(t, ses(next, seen), true)
		}
		for _, next := range []int{0, -1, -most, math.MinInt, most + 1, math.MaxInt} {
			checkRight(t, ses(next, seen), false)
		}
	}
	for _, seen := range []int{-1, -2, -most, math.MinInt, most + 1, most + 2, math.MaxInt - 64, math.MaxInt - 1, math.MaxInt} {
		checkRight(t, ses(1, seen), false)
		checkRight(t, ses(1, seen, seen+2), false)
	}
	checkRight(t, api.Session{}, false)
}

// J1: Ahead, written out.
func TestRightAhead(t *testing.T) {
	for _, c := range []struct {
		s    api.Session
		want bool
	}{
		{api.Session{Next: 1, Ahead: []int{}}, true},
		{ses(1, 0, 2), true},
		{ses(1, 0, 1), false},
		{ses(1, 0, 0), false},
		{ses(1, 0, -1), false},
		{ses(1, 0, 64), true},
		{ses(1, 0, 65), false},
		{ses(1, 0, 2, 64), true},
		{ses(1, 0, 2, 65), false},
		{ses(1, 0, 1, 3), false},
		{ses(1, 0, 2, 2), false},
		{ses(1, 0, 2, 3, 3), false},
		{ses(1, 0, 3, 2), false},
		{ses(1, 0, 2, 9, 8), false},
		{ses(1, 0, 9, 2, 10), false},
		{ses(1, 5, 7), true},
		{ses(1, 5, 6), false},
		{ses(1, 5, 5), false},
		{ses(1, 5, 4), false},
		{ses(1, 5, 69), true},
		{ses(1, 5, 70), false},
		{ses(1, 5, 7, 8, 11, 69), true},
		{ses(1, 5, 7, 8, 11, 70), false},
		{ses(1, 0, run(2, 64)...), true},
		{ses(1, 0, run(1, 64)...), false},
		{ses(1, 0, run(2, 65)...), false},
		{ses(1, 0, math.MaxInt), false},
		{ses(1, 0, math.MinInt), false},
		{ses(1, most-64, most-62, most), true},
		{ses(1, most-64, most+1), false},
		{ses(1, most-10, most-8, most), true},
		{ses(1, most-10, most-8, most+1), false},
		{ses(1, most-2, most), true},
		{ses(1, most-2, most-1), false},
		{ses(1, most-1, most), false},
		{ses(1, most-1, most+1), false},
		{ses(1, most, most), false},
		{ses(1, most, most+1), false},
		{ses(1, most, most+2), false},
	} {
		checkRight(t, c.s, c.want)
	}
}

// J1: all edges of all numbers.
func TestRightByTheWords(t *testing.T) {
	for _, seen := range numbers() {
		for _, a := range aheads(seen) {
			for _, next := range []int{math.MinInt, -1, 0, 1, 2, most - 1, most, most + 1, math.MaxInt} {
				checkRight(t, ses(next, seen, a...), wantRight(ses(next, seen, a...)))
			}
		}
	}
}

// J1: the longest list that may be, and long ones that may not.
func TestRightLong(t *testing.T) {
	checkRight(t, ses(1, 100, run(102, 164)...), true)
	checkRight(t, ses(1, 100, run(102, 100000)...), false)
	checkRight(t, ses(1, 100, slices.Repeat([]int{102}, 100000)...), false)
}

// J2: written out.
func TestStampWrittenOut(t *testing.T) {
	checkStamp(t, New(), ses(2, 0), 1, api.OK)
	checkStamp(t, ses(7, 2), ses(8, 2), 7, api.OK)
	checkStamp(t, ses(7, 2, 4, 9), ses(8, 2, 4, 9), 7, api.OK)
	checkStamp(t, ses(1, most), ses(2, most), 1, api.OK)
	checkStamp(t, ses(most-1, 5, 7), ses(most, 5, 7), most-1, api.OK)
	checkStamp(t, ses(most, 5, 7), ses(most, 5, 7), 0, api.ErrFull)
	checkStamp(t, ses(most, 0), ses(most, 0), 0, api.ErrFull)
	checkStamp(t, ses(most, most), ses(most, most), 0, api.ErrFull)
}

// J2: of one that is not right nothing is told, and it is as it was, full or not.
func TestStampWrong(t *testing.T) {
	for _, s := range []api.Session{{}, ses(0, 0), ses(-1, 3), ses(most+1, 0), ses(math.MaxInt, 0), ses(math.MinInt, 0), ses(1, -1), ses(1, most+1), ses(most, -1), ses(most, 0, 1), ses(3, 0, 2, 2), ses(3, 0, 65)} {
		checkStamp(t, s, s, 0, api.ErrArg)
	}
	for _, s := range wrongs() {
		checkStamp(t, s, s, 0, api.ErrArg)
	}
}

// J2: all edges of one that is right.
func TestStampByTheWords(t *testing.T) {
	for _, s := range rights() {
		for _, next := range []int{1, 2, 3, 1 << 32, most - 2, most - 1} {
			checkStamp(t, ses(next, s.Seen, s.Ahead...), ses(next+1, s.Seen, s.Ahead...), next, api.OK)
		}
		full := ses(most, s.Seen, s.Ahead...)
		checkStamp(t, full, full, 0, api.ErrFull)
	}
}

// J3: what is new, written out.
func TestTakeNew(t *testing.T) {
	s := ses(9, 5, 7, 8, 11)
	checkNew(t, s, 6, 8, 11)
	checkNew(t, s, 9, 5, 7, 8, 9, 11)
	checkNew(t, s, 10, 5, 7, 8, 10, 11)
	checkNew(t, s, 12, 5, 7, 8, 11, 12)
	checkNew(t, s, 69, 5, 7, 8, 11, 69)
	checkNew(t, New(), 1, 1)
	checkNew(t, New(), 2, 0, 2)
	checkNew(t, New(), 64, 0, 64)
	checkNew(t, ses(1, 5, 7, 8), 6, 8)
	checkNew(t, ses(1, 5, 8), 6, 6, 8)
	checkNew(t, ses(1, 5, 8), 7, 5, 7, 8)
	checkNew(t, ses(1, 0, run(2, 64)...), 1, 64)
	checkNew(t, ses(1, 0, every(3, 63, 2)...), 1, 1, every(3, 63, 2)...)
	checkNew(t, ses(1, 0, every(2, 64, 2)...), 1, 2, every(4, 64, 2)...)
	checkNew(t, ses(1, most-1), most, most)
	checkNew(t, ses(1, most-2), most, most-2, most)
	checkNew(t, ses(1, most-2, most), most-1, most)
	checkNew(t, ses(1, most-64), most, most-64, most)
}

// J3: what came before, written out.
func TestTakeOld(t *testing.T) {
	s := ses(9, 5, 7, 8, 11)
	for _, seq := range []int{1, 2, 3, 4, 5, 7, 8, 11} {
		checkOld(t, s, seq)
	}
	for _, seq := range []int{1, 2, 1 << 32, most - 1, most} {
		checkOld(t, ses(1, most), seq)
	}
	checkOld(t, ses(1, 0, run(2, 64)...), 2)
	checkOld(t, ses(1, 0, run(2, 64)...), 33)
	checkOld(t, ses(1, 0, run(2, 64)...), 64)
	checkOld(t, ses(1, most-2, most), most)
}

// J3: wrong inputs, written out.
func TestTakeWrong(t *testing.T) {
	for _, s := range []api.Session{New(), ses(9, 5, 7, 8, 11), ses(most, most), ses(1, most-1)} {
		for _, seq := range []int{0, -1, -64, math.MinInt, most + 1, most + 64, most + 65, math.MaxInt} {
			checkErr(t, s, seq, api.ErrArg)
		}
	}
	for _, s := range []api.Session{{}, ses(0, 5), ses(most+1, 5), ses(1, -1), ses(1, most+1), ses(1, 5, 6), ses(1, 5, 70), ses(1, 5, 8, 8), ses(1, 5, 8, 7), ses(1, most-1, most+1)} {
		for _, seq := range []int{0, 1, 6, 7, 8, 9, 70, 1000, most, most + 1} {
			checkErr(t, s, seq, api.ErrArg)
		}
	}
	for _, s := range wrongs() {
		checkErr(t, s, 1, api.ErrArg)
		checkErr(t, s, most, api.ErrArg)
		checkErr(t, s, 0, api.ErrArg)
	}
}

// J3: too far ahead, written out.
func TestTakeFar(t *testing.T) {
	for _, s := range []api.Session{New(), ses(1, 0, 2), ses(1, 0, 64), ses(1, 0, run(2, 64)...)} {
		for _, seq := range []int{65, 66, 128, 1 << 32, 1<<32 + 1, most - 1, most} {
			checkErr(t, s, seq, api.ErrFar)
		}
	}
	checkErr(t, ses(9, 5, 7, 8, 11), 70, api.ErrFar)
	checkErr(t, ses(9, 5, 7, 8, 69), 70, api.ErrFar)
	checkErr(t, ses(1, most-65), most, api.ErrFar)
	checkErr(t, ses(1, most-66, most-64), most, api.ErrFar)
}

// J3: all edges of all sessions that may be.
func TestTakeByTheWords(t *testing.T) {
	for _, s := range rights() {
		for d := -2; d <= 67; d++ {
			checkWords(t, s, s.Seen+d)
		}
		for _, seq := range numbers() {
			checkWords(t, s, seq)
		}
	}
}

// J3: each session that may be of few numbers, and each number.
func TestAllOfFew(t *testing.T) {
	for _, seen := range []int{0, 1, 9, most - 11, most - 10, most - 9} {
		for bits := range 1 << 9 {
			s := ses(3, seen)
			for i := range 9 {
				if bits>>i&1 == 1 {
					s.Ahead = append(s.Ahead, seen+2+i)
				}
			}
			for d := 0; d <= 12; d++ {
				checkWords(t, s, seen+d)
			}
		}
	}
}

// next is a number that looks like chance, the same in each run.
func next(seed *uint64) int {
	*seed = *seed*6364136223846793005 + 1442695040888963407
	return int(*seed >> 33)
}

// mixed are the numbers from one to another one, each of them so often, in an order that looks like chance.
func mixed(from, to, times int, seed uint64) []int {
	l := slices.Repeat(run(from, to), times)
	for i := range l {
		j := i + next(&seed)%(len(l)-i)
		l[i], l[j] = l[j], l[i]
	}
	return l
}

// checkOrder takes what comes from a number on, and holds each step against all that came: new once, Seen, and Ahead.
func checkOrder(t *testing.T, from int, order []int) {
	t.Helper()
	s := ses(4, from)
	all := map[int]int{}
	for _, seq := range order {
		r, is, e := Take(s, seq)
		if e == api.ErrFar {
			if !alike(r, s) || is || seq <= s.Seen+64 {
				t.Fatalf("Take(%v, %d) = %v, %v, %d", s, seq, r, is, e)
			}
			continue
		}
		if e != api.OK || is != (all[seq] == 0) {
			t.Fatalf("Take(%v, %d) = %v, %v, %d; it came %d times", s, seq, r, is, e, all[seq])
		}
		all[seq]++
		want := ses(4, from)
		for all[want.Seen+1] > 0 {
			want.Seen++
		}
		for n := want.Seen + 1; n <= want.Seen+64; n++ {
			if all[n] > 0 {
				want.Ahead = append(want.Ahead, n)
			}
		}
		if !alike(r, want) || !Right(r) {
			t.Fatalf("Take(%v, %d) = %v; want %v", s, seq, r, want)
		}
		s = r
	}
}

// J3, J4: all orders of five numbers, each of which comes again when all were there.
func TestAllOrders(t *testing.T) {
	var put func(order, left []int)
	put = func(order, left []int) {
		if len(left) == 0 {
			checkOrder(t, 0, slices.Concat(order, order))
			for i := range order {
				checkOrder(t, 0, slices.Concat(order[:i], order, order[i:]))
			}
			return
		}
		for i, n := range left {
			put(append(slices.Clone(order), n), slices.Concat(left[:i], left[i+1:]))
		}
	}
	put(nil, run(1, 5))
}

// J3, J4: up, down, every second one first, and as chance has it, once or oftener; some of it too far ahead.
func TestOrders(t *testing.T) {
	down := run(1, 64)
	slices.Reverse(down)
	checkOrder(t, 0, run(1, 200))
	checkOrder(t, 0, down)
	checkOrder(t, 0, slices.Concat(down, down))
	checkOrder(t, 0, slices.Concat(every(2, 64, 2), every(1, 63, 2), run(1, 128)))
	checkOrder(t, 0, slices.Concat(run(2, 65), run(1, 65), run(1, 130)))
	for seed := range uint64(40) {
		checkOrder(t, 0, mixed(1, 64, 1, seed))
		checkOrder(t, 0, mixed(1, 64, 3, seed))
		checkOrder(t, 0, mixed(1, 150, 4, seed))
		checkOrder(t, 1<<32, mixed(1<<32+1, 1<<32+100, 3, seed))
		checkOrder(t, most-64, mixed(most-63, most, 3, seed))
		checkOrder(t, most-90, mixed(most-89, most, 4, seed))
	}
}

// J4: where what was not taken, as it was too far ahead, is sent again, all is taken, each number once.
func TestAllIsTaken(t *testing.T) {
	for seed := range uint64(20) {
		s, took := New(), map[int]int{}
		for range 20 {
			for _, seq := range mixed(1, 300, 1, seed) {
				r, is, _ := Take(s, seq)
				if is {
					took[seq]++
				}
				s = r
			}
		}
		if !alike(s, ses(1, 300)) || len(took) != 300 {
			t.Fatalf("seed %d: %v, and %d were taken", seed, s, len(took))
		}
		for seq, n := range took {
			if n != 1 {
				t.Fatalf("seed %d: %d was taken %d times", seed, seq, n)
			}
		}
	}
}

// J4: what was stamped rises by one, up to where there is no room, whatever comes between.
func TestStampedRise(t *testing.T) {
	for _, from := range []int{1, 1 << 32, most - 100} {
		s, seed := ses(from, 0), uint64(from)
		for i := range 120 {
			r, n, e := Stamp(s)
			if from+i >= most {
				if !alike(r, s) || n != 0 || e != api.ErrFull {
					t.Fatalf("Stamp(%v) = %v, %d, %d", s, r, n, e)
				}
				continue
			}
			if n != from+i || e != api.OK || !alike(r, ses(from+i+1, s.Seen, s.Ahead...)) {
				t.Fatalf("Stamp(%v) = %v, %d, %d; want %d", s, r, n, e, from+i)
			}
			s = r
			if r, _, e := Take(s, s.Seen+next(&seed)%64+1); e == api.OK {
				s = r
			}
		}
	}
}

// J4: what one stamps another one takes, each number once; one's sending and one's taking do not touch each other.
func TestStampThenTake(t *testing.T) {
	a, b := New(), New()
	for i := range 300 {
		r, n, _ := Stamp(a)
		q, is, e := Take(b, n)
		if !is || e != api.OK || q.Next != 1 || r.Seen != 0 || q.Seen != i+1 {
			t.Fatalf("%d: %v, %v, %v, %d", n, r, q, is, e)
		}
		if _, again, e := Take(q, n); again || e != api.OK {
			t.Fatalf("%d again: %v, %d", n, again, e)
		}
		a, b = r, q
	}
}

// R3, R4: what is done to an answer changes no other answer.
func TestAskedAgain(t *testing.T) {
	s := ses(9, 5, 7, 8, 11)
	for range 3 {
		for _, seq := range []int{6, 9, 10, 12, 69} {
			r, _, _ := Take(s, seq)
			q, _, _ := Take(s, seq)
			p, _, _ := Stamp(s)
			n := New()
			overwrite(r)
			overwrite(p)
			overwrite(n)
			want, _, _ := wantTake(s, seq)
			if !alike(q, want) || !alike(s, ses(9, 5, 7, 8, 11)) || !alike(New(), ses(1, 0)) {
				t.Errorf("behind Take(%v, %d): %v; want %v", s, seq, q, want)
			}
		}
	}
}

// The oracle itself: it tells each error, what is new and what is not.
func TestWantTellsAll(t *testing.T) {
	told := map[string]int{}
	for _, s := range append(rights(), wrongs()...) {
		for _, seq := range append(numbers(), s.Seen+1, s.Seen+2, s.Seen+64) {
			_, is, e := wantTake(s, seq)
			told[fmt.Sprint(is, e)]++
		}
	}
	for _, s := range []string{"true 0", "false 0", "false 1", "false 60"} {
		if told[s] < 100 {
			t.Errorf("%q is told %d times", s, told[s])
		}
	}
	if len(told) != 4 {
		t.Errorf("told: %v", told)
	}
}

// spread is a session whose Ahead are Seen and what bytes say, one behind the other.
func spread(next, seen int, ahead []byte) api.Session {
	s := ses(next, seen)
	for _, b := range ahead {
		s.Ahead = append(s.Ahead, seen+int(b))
	}
	return s
}

func FuzzTake(f *testing.F) {
	f.Add(9, 5, []byte{2, 3, 6}, 6)
	f.Add(1, 0, []byte{64}, 65)
	f.Add(1, most-2, []byte{2}, most)
	f.Add(0, -1, []byte{1, 1}, 0)
	f.Fuzz(func(t *testing.T, next, seen int, ahead []byte, seq int) {
		for _, s := range []api.Session{spread(next, seen, ahead), spread(9, int(uint32(seen)), ahead)} {
			checkRight(t, s, wantRight(s))
			checkWords(t, s, seq)
			checkWords(t, s, s.Seen+seq%70)
			r, n, e := Stamp(s)
			switch {
			case !wantRight(s):
				checkStamp(t, s, s, 0, api.ErrArg)
			case s.Next == most:
				checkStamp(t, s, s, 0, api.ErrFull)
			default:
				checkStamp(t, s, ses(s.Next+1, s.Seen, s.Ahead...), s.Next, api.OK)
			}
			if n != 0 && r.Next != n+1 || e == api.OK && n == 0 {
				t.Errorf("Stamp(%v) = %v, %d, %d", s, r, n, e)
			}
		}
	})
}

func FuzzOrder(f *testing.F) {
	f.Add(0, []byte{1, 3, 2, 3})
	f.Add(most-300, []byte{64, 65, 1, 2, 0})
	f.Fuzz(func(t *testing.T, from int, order []byte) {
		from = int(uint(from) % (most - 300))
		l := make([]int, 0, len(order))
		for _, b := range order {
			l = append(l, from+int(b)%90+1)
		}
		checkOrder(t, from, l)
	})
}
