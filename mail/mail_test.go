package mail

import (
	"fmt"
	"math"
	"slices"
	"strings"
	"testing"

	"careen/api"
)

const most = 200 // letters

// let is a letter, in few words.
func let(from, to int, bytes string) api.Letter {
	return api.Letter{From: from, To: to, Bytes: bytes}
}

// many are so many letters, no two of them the same, to 1, 2 and 3 in turn.
func many(n int) []api.Letter {
	var l []api.Letter
	for i := range n {
		l = append(l, let(i+1, i%3+1, fmt.Sprint("b", i)))
	}
	return l
}

// lists are lists at all edges: none, few, as many as there may be, and more.
func lists() [][]api.Letter {
	l := [][]api.Letter{nil, {}, make([]api.Letter, 1), make([]api.Letter, 5), make([]api.Letter, most), slices.Repeat(many(2), 3)}
	for _, n := range []int{1, 2, 3, 4, 7, 8, 63, 64, 65, 127, 128, 198, 199, 200, 201, 202, 255, 256, 257, 400, 1000} {
		l = append(l, many(n))
	}
	return append(l, odd(), []api.Letter{odd()[0], {}, odd()[0], {}})
}

// odd are letters of which one might think that they may not be: this layer carries them all.
func odd() []api.Letter {
	return []api.Letter{
		let(-1, -1, "\x00"), {}, let(0, 1, ""), let(1, 0, "\xff\xfe\x80"), let(math.MinInt, math.MaxInt, "ä€"), let(math.MaxInt, math.MinInt, strings.Repeat("x", 20000)),
		let(5, 1<<32, "a\nb"), let(5, 1<<32+1, "a"), let(5, 1, "a"), let(7, -1<<32, " "), let(1<<53, 1<<53+1, "-1"), let(5, 256, "a"), let(5, 5, "a"),
	}
}

// places are those in a list, and those that might be taken for them.
func places(n int) []int {
	l := []int{
		-1, -2, -n, -n - 1, 1 - n, n, n + 1, n + 2, 2 * n, 199, 200, 201, 255, 256, 257, -255, -256, -257, 1000, 1 << 16, 1<<16 + 1,
		math.MaxInt32, math.MinInt32, 1 << 31, 1 << 32, 1<<32 + 1, 1<<32 - 1, -1 << 32, 1 - 1<<32, 1 << 53, 1 << 62, math.MaxInt - 1, math.MaxInt, math.MinInt, math.MinInt + 1, math.MinInt + n,
	}
	for i := range n {
		if i < 4 || i > n-4 || i%29 == 0 || i > 196 && i < 204 {
			l = append(l, i)
		}
	}
	return l
}

// tos are those whom letters may be to, and those who have none.
func tos() []int {
	l := []int{0, 1, 2, 3, 4, -1, -3, 255, 256, 257, 1<<32 + 2, 1<<32 + 3, 2 - 1<<32, math.MinInt + 1, math.MaxInt - 1}
	for _, m := range odd() {
		l = append(l, m.To)
	}
	return l
}

// wantPost is Post by the words of K1.
func wantPost(l []api.Letter, m api.Letter) ([]api.Letter, api.Errno) {
	if len(l) > 199 {
		return l, 50
	}
	all := make([]api.Letter, len(l)+1)
	for i := range all {
		if i == len(l) {
			all[i] = m
		} else {
			all[i] = l[i]
		}
	}
	return all, 0
}

// wantCopy is Copy by the words of K1: letter by letter, whether it is the one.
func wantCopy(l []api.Letter, i int) ([]api.Letter, api.Errno) {
	m, _, is := wantTake(l, i)
	if !is {
		return l, 1
	}
	return wantPost(l, m)
}

// wantLose is Lose by the words of K1.
func wantLose(l []api.Letter, i int) ([]api.Letter, api.Errno) {
	var others []api.Letter
	for j, m := range l {
		if j != i {
			others = append(others, m)
		}
	}
	if len(others) == len(l) {
		return l, 1
	}
	return others, 0
}

// wantTake is Take by the words of K1.
func wantTake(l []api.Letter, i int) (api.Letter, []api.Letter, bool) {
	for j, m := range l {
		if j == i {
			others, _ := wantLose(l, i)
			return m, others, true
		}
	}
	return api.Letter{}, l, false
}

// wantFor is promise K2 by its words.
func wantFor(l []api.Letter, to int) []int {
	var at []int
	for i := len(l) - 1; i >= 0; i-- {
		if l[i].To == to {
			at = append(at, i)
		}
	}
	slices.Reverse(at)
	return at
}

// held is a list that stands between other letters, and what tells whether any of them was written into.
func held(l []api.Letter) ([]api.Letter, func() bool) {
	was := slices.Concat(odd()[:2], l, odd()[2:])
	now := slices.Clone(was)
	return now[2 : 2+len(l)], func() bool { return !slices.Equal(now, was) }
}

// overwrite writes into all of a list, spare room too, and grows it.
func overwrite[T any](l []T, x T) {
	all := l[:cap(l)]
	for i := range all {
		all[i] = x
	}
	_ = append(l, x, x)
}

// name is a list in a few words.
func name(l []api.Letter) string {
	if len(l) > 8 {
		return fmt.Sprintf("%d letters, %.80q ..", len(l), fmt.Sprint(l[:2]))
	}
	return fmt.Sprintf("%.400q", fmt.Sprint(l))
}

// checkList holds what a call told, and what it did to what was handed in, to what was to be told.
func checkList(t *testing.T, call string, l, want []api.Letter, e, f api.Errno, written func() bool) {
	t.Helper()
	if !slices.Equal(l, want) || e != f {
		t.Errorf("%s = %s, %d; want %s, %d", call, name(l), e, name(want), f)
	}
	if written() {
		t.Errorf("%s wrote into what was handed in", call)
	}
	if f != api.OK {
		return
	}
	if overwrite(l, let(-7, -7, "over")); written() {
		t.Errorf("%s gives out what was handed in", call)
	}
}

func checkPost(t *testing.T, l []api.Letter, m api.Letter, want []api.Letter, f api.Errno) {
	t.Helper()
	in, written := held(l)
	r, e := Post(in, m)
	checkList(t, fmt.Sprintf("Post(%s, %.80q)", name(l), fmt.Sprint(m)), r, want, e, f, written)
}

func checkCopy(t *testing.T, l []api.Letter, i int, want []api.Letter, f api.Errno) {
	t.Helper()
	in, written := held(l)
	r, e := Copy(in, i)
	checkList(t, fmt.Sprintf("Copy(%s, %d)", name(l), i), r, want, e, f, written)
}

func checkLose(t *testing.T, l []api.Letter, i int, want []api.Letter, f api.Errno) {
	t.Helper()
	in, written := held(l)
	r, e := Lose(in, i)
	checkList(t, fmt.Sprintf("Lose(%s, %d)", name(l), i), r, want, e, f, written)
}

func checkTake(t *testing.T, l []api.Letter, i int, m api.Letter, want []api.Letter, is bool) {
	t.Helper()
	in, written := held(l)
	x, r, ok := Take(in, i)
	call := fmt.Sprintf("Take(%s, %d)", name(l), i)
	if x != m || ok != is {
		t.Errorf("%s = %.80q, .., %v; want %.80q, .., %v", call, fmt.Sprint(x), ok, fmt.Sprint(m), is)
	}
	f := api.OK
	if !is {
		f = api.ErrArg // here the list is as it was, as behind an error
	}
	checkList(t, call, r, want, f, f, written)
}

func checkFor(t *testing.T, l []api.Letter, to int, want ...int) {
	t.Helper()
	in, written := held(l)
	if r := For(in, to); !slices.Equal(r, want) {
		t.Errorf("For(%s, %d) = %v; want %v", name(l), to, r, want)
	}
	if written() {
		t.Errorf("For(%s, %d) wrote into it", name(l), to)
	}
}

// checkNone holds Copy, Lose and Take to a place that there is not: the list as it was, and nothing else.
func checkNone(t *testing.T, l []api.Letter, i int) {
	t.Helper()
	checkCopy(t, l, i, l, api.ErrArg)
	checkLose(t, l, i, l, api.ErrArg)
	checkTake(t, l, i, api.Letter{}, l, false)
}

// The chapter's example.
func TestExample(t *testing.T) {
	var l []api.Letter
	for _, to := range []int{1, 2, 1} {
		p, e := Post(l, let(5, to, "x"))
		if e != api.OK {
			t.Fatal(e)
		}
		l = p
	}
	checkFor(t, l, 1, 0, 2)
	checkFor(t, l, 2, 1)
	checkFor(t, l, 3)
}

// K1: Post, written out.
func TestPostWrittenOut(t *testing.T) {
	a, b, c := let(1, 2, "a"), let(2, 1, "b"), let(1, 2, "c")
	checkPost(t, nil, a, []api.Letter{a}, api.OK)
	checkPost(t, []api.Letter{}, a, []api.Letter{a}, api.OK)
	checkPost(t, []api.Letter{a}, b, []api.Letter{a, b}, api.OK)
	checkPost(t, []api.Letter{a, b}, c, []api.Letter{a, b, c}, api.OK)
	checkPost(t, []api.Letter{c, b}, a, []api.Letter{c, b, a}, api.OK)
	checkPost(t, []api.Letter{a}, a, []api.Letter{a, a}, api.OK)
	checkPost(t, []api.Letter{a}, api.Letter{}, []api.Letter{a, {}}, api.OK)
}

// K1: Post, up to where there is no room.
func TestPostFull(t *testing.T) {
	m := let(9, 9, "z")
	for _, n := range []int{0, 1, 198, 199} {
		checkPost(t, many(n), m, append(many(n), m), api.OK)
	}
	for _, n := range []int{200, 201, 202, 255, 256, 257, 400, 70000} {
		checkPost(t, many(n), m, many(n), api.ErrFull)
	}
	var l []api.Letter
	for i, x := range many(most + 3) {
		p, e := Post(l, x)
		if e == api.OK != (i < most) {
			t.Fatalf("Post of the letter %d: %d", i, e)
		}
		l = p
	}
	if !slices.Equal(l, many(most)) {
		t.Errorf("behind all: %s", name(l))
	}
}

// K1: a letter is carried as it is, whatever it is.
func TestPostCarries(t *testing.T) {
	for _, m := range odd() {
		for _, l := range [][]api.Letter{nil, many(3), odd()} {
			checkPost(t, l, m, append(slices.Clone(l), m), api.OK)
		}
	}
}

// K1: Copy, written out.
func TestCopyWrittenOut(t *testing.T) {
	a, b, c := let(1, 2, "a"), let(2, 1, "b"), let(1, 2, "c")
	l := []api.Letter{a, b, c}
	checkCopy(t, l, 0, []api.Letter{a, b, c, a}, api.OK)
	checkCopy(t, l, 1, []api.Letter{a, b, c, b}, api.OK)
	checkCopy(t, l, 2, []api.Letter{a, b, c, c}, api.OK)
	checkCopy(t, []api.Letter{a}, 0, []api.Letter{a, a}, api.OK)
	checkCopy(t, []api.Letter{{}}, 0, make([]api.Letter, 2), api.OK)
}

// K1: Copy, up to where there is no room; a place that there is not is told ahead of that.
func TestCopyFull(t *testing.T) {
	for _, i := range []int{0, 1, 100, 198} {
		checkCopy(t, many(199), i, append(many(199), many(199)[i]), api.OK)
		checkCopy(t, many(200), i, many(200), api.ErrFull)
		checkCopy(t, many(201), i, many(201), api.ErrFull)
	}
	checkCopy(t, many(199), 199, many(199), api.ErrArg)
	checkCopy(t, many(200), 199, many(200), api.ErrFull)
	checkCopy(t, many(200), 200, many(200), api.ErrArg)
	checkCopy(t, many(200), -1, many(200), api.ErrArg)
	checkCopy(t, many(201), 200, many(201), api.ErrFull)
	checkCopy(t, many(201), 201, many(201), api.ErrArg)
	checkCopy(t, many(201), math.MinInt, many(201), api.ErrArg)
}

// K1: Lose, written out, and of lists that have more than there may be.
func TestLoseWrittenOut(t *testing.T) {
	a, b, c := let(1, 2, "a"), let(2, 1, "b"), let(1, 2, "c")
	l := []api.Letter{a, b, c}
	checkLose(t, l, 0, []api.Letter{b, c}, api.OK)
	checkLose(t, l, 1, []api.Letter{a, c}, api.OK)
	checkLose(t, l, 2, []api.Letter{a, b}, api.OK)
	checkLose(t, []api.Letter{a}, 0, nil, api.OK)
	checkLose(t, []api.Letter{a, a, a}, 1, []api.Letter{a, a}, api.OK)
	for _, n := range []int{199, 200, 201, 1000} {
		checkLose(t, many(n), n-1, many(n)[:n-1], api.OK)
		checkLose(t, many(n), 0, many(n)[1:], api.OK)
	}
}

// K1: Take, written out, and of lists that have more than there may be.
func TestTakeWrittenOut(t *testing.T) {
	a, b, c := let(1, 2, "a"), let(2, 1, "b"), let(1, 2, "c")
	l := []api.Letter{a, b, c}
	checkTake(t, l, 0, a, []api.Letter{b, c}, true)
	checkTake(t, l, 1, b, []api.Letter{a, c}, true)
	checkTake(t, l, 2, c, []api.Letter{a, b}, true)
	checkTake(t, []api.Letter{a}, 0, a, nil, true)
	checkTake(t, []api.Letter{a, {}}, 1, api.Letter{}, []api.Letter{a}, true)
	for _, n := range []int{199, 200, 201, 1000} {
		checkTake(t, many(n), n-1, many(n)[n-1], many(n)[:n-1], true)
		checkTake(t, many(n), 0, many(n)[0], many(n)[1:], true)
	}
}

// K1: places that there are not, written out.
func TestNoSuchPlace(t *testing.T) {
	for _, l := range [][]api.Letter{nil, {}} {
		for _, i := range []int{0, -1, 1, 1 << 32, math.MaxInt, math.MinInt} {
			checkNone(t, l, i)
		}
	}
	for _, n := range []int{1, 3, 199, 200, 201} {
		for _, i := range []int{-1, -n, n, n + 1, 1 << 32, 1<<32 + 1, -1 << 32, 1 - 1<<32, math.MaxInt, math.MinInt} {
			checkNone(t, many(n), i)
		}
	}
}

// K1: all edges of all lists.
func TestByTheWords(t *testing.T) {
	for _, l := range lists() {
		for _, m := range odd() {
			want, e := wantPost(l, m)
			checkPost(t, l, m, want, e)
		}
		for _, i := range places(len(l)) {
			checkPlace(t, l, i)
		}
	}
}

// checkPlace holds Copy, Lose and Take against the words.
func checkPlace(t *testing.T, l []api.Letter, i int) {
	t.Helper()
	want, e := wantCopy(l, i)
	checkCopy(t, l, i, want, e)
	want, e = wantLose(l, i)
	checkLose(t, l, i, want, e)
	m, want, is := wantTake(l, i)
	checkTake(t, l, i, m, want, is)
}

// K2: written out.
func TestForWrittenOut(t *testing.T) {
	l := []api.Letter{let(1, 2, "a"), let(2, 1, "b"), let(1, 2, "a"), let(2, 0, "d"), let(7, 2, ""), let(2, -1, "f")}
	checkFor(t, l, 2, 0, 2, 4)
	checkFor(t, l, 1, 1)
	checkFor(t, l, 0, 3)
	checkFor(t, l, -1, 5)
	for _, to := range []int{7, 3, -2, 1<<32 + 2, 258, math.MaxInt, math.MinInt} {
		checkFor(t, l, to)
		checkFor(t, nil, to)
		checkFor(t, []api.Letter{}, to)
	}
	checkFor(t, []api.Letter{let(1, 5, "")}, 5, 0)
	checkFor(t, make([]api.Letter, 3), 0, 0, 1, 2)
	checkFor(t, make([]api.Letter, 3), 1)
}

// K2: where all letters are to one, and where there are more than there may be.
func TestForAll(t *testing.T) {
	for _, n := range []int{1, 199, 200, 201, 1000} {
		var all []int
		for i := range n {
			all = append(all, i)
		}
		checkFor(t, slices.Repeat([]api.Letter{let(1, 4, "x")}, n), 4, all...)
		checkFor(t, slices.Repeat([]api.Letter{let(4, 1, "x")}, n), 4)
	}
}

// K2: all lists, and all whom letters are to.
func TestForByTheWords(t *testing.T) {
	for _, l := range lists() {
		for _, to := range tos() {
			checkFor(t, l, to, wantFor(l, to)...)
		}
	}
}

// K2: the places are those at which Take has one's letters.
func TestForThenTake(t *testing.T) {
	for _, l := range lists() {
		for _, to := range tos() {
			at, left := For(l, to), l
			for k, i := range at {
				m, others, is := Take(left, i-k) // k letters ahead of it were taken
				if !is || m != l[i] || m.To != to {
					t.Fatalf("Take(%s, %d) = %v, .., %v", name(left), i-k, m, is)
				}
				left = others
			}
			if rest := For(left, to); len(rest) != 0 || len(left) != len(l)-len(at) {
				t.Fatalf("For(%s, %d) = %v, when all were taken", name(left), to, rest)
			}
		}
	}
}

// The language's way, an iterator: it ends where no more is asked for, and tells the letters themselves.
func TestLettersTo(t *testing.T) {
	l := many(9)
	var got []api.Letter
	for i, m := range lettersTo(l, 2) {
		if m != l[i] {
			t.Errorf("%d: %v", i, m)
		}
		if got = append(got, m); len(got) == 2 {
			break
		}
	}
	if !slices.Equal(got, []api.Letter{l[1], l[4]}) {
		t.Errorf("told: %v", got)
	}
}

// arrival is a letter that was posted or copied, and whether it is on its way no more.
type arrival struct {
	m    api.Letter
	gone bool
}

// way is mail, beside all that ever arrived in it: what is told of it must be the arrivals that are not gone, in order.
type way struct {
	l   []api.Letter
	all []*arrival
}

// left are the arrivals that are not gone.
func (w *way) left() []*arrival {
	var left []*arrival
	for _, a := range w.all {
		if !a.gone {
			left = append(left, a)
		}
	}
	return left
}

// at is the arrival at a place among those that are not gone, if there is one.
func (w *way) at(i int) *arrival {
	if left := w.left(); i >= 0 && i < len(left) {
		return left[i]
	}
	return nil
}

// do does what a number says, at a place, and tells whether what is answered is what is to be.
func (w *way) do(kind, i int) bool {
	a, n := w.at(i), len(w.left())
	switch kind {
	case 0:
		m := let(len(w.all), i, "m")
		return w.put(&m, n, func() ([]api.Letter, api.Errno) { return Post(w.l, m) })
	case 1:
		var m *api.Letter
		if a != nil {
			m = &a.m
		}
		return w.put(m, n, func() ([]api.Letter, api.Errno) { return Copy(w.l, i) })
	case 2:
		l, e := Lose(w.l, i)
		w.l = l
		return w.end(a) == (e == api.OK) && (e == api.OK || e == api.ErrArg)
	}
	m, l, is := Take(w.l, i)
	w.l = l
	return w.end(a) == is && (a == nil && m == api.Letter{} || a != nil && m == a.m)
}

// put does what puts a letter (if there is one) behind so many.
func (w *way) put(m *api.Letter, n int, call func() ([]api.Letter, api.Errno)) bool {
	l, e := call()
	w.l = l
	switch {
	case m == nil:
		return e == api.ErrArg
	case n >= most:
		return e == api.ErrFull
	}
	w.all = append(w.all, &arrival{m: *m})
	return e == api.OK
}

// end ends an arrival, if there is one, and tells whether there is.
func (w *way) end(a *arrival) bool {
	if a != nil {
		a.gone = true
	}
	return a != nil
}

// right tells whether what is on its way are the arrivals that are not gone, in order.
func (w *way) right() bool {
	left := w.left()
	for i, a := range left {
		if i >= len(w.l) || w.l[i] != a.m {
			return false
		}
	}
	return len(w.l) == len(left)
}

// checkWay does one thing behind the other, and holds each against all that arrived.
func checkWay(t *testing.T, w *way, steps [][2]int) {
	t.Helper()
	for k, s := range steps {
		was := slices.Clone(w.l)
		before := w.l
		if !w.do(s[0], s[1]) || !w.right() || !slices.Equal(before, was) {
			t.Fatalf("step %d of %v: %s, behind %s; %s", k, steps[:k+1], name(w.l), name(was), name(before))
		}
	}
}

// K3: all that may be done in four steps to three letters.
func TestAllWays(t *testing.T) {
	var go4 func(steps [][2]int)
	go4 = func(steps [][2]int) {
		if len(steps) == 7 {
			checkWay(t, &way{}, steps)
			return
		}
		for kind := range 4 {
			for _, i := range []int{-1, 0, 1, 3} {
				go4(append(slices.Clone(steps), [2]int{kind, i}))
			}
		}
	}
	go4([][2]int{{0, 1}, {0, 2}, {0, 1}})
}

// next is a number that looks like chance, the same in each run.
func next(seed *uint64) int {
	*seed = *seed*6364136223846793005 + 1442695040888963407
	return int(*seed >> 33)
}

// K3: long ways, on which mail is full at times, and empty at times.
func TestLongWays(t *testing.T) {
	for seed := range uint64(12) {
		w, x := &way{}, seed
		for round := range 6 {
			var steps [][2]int
			for range 300 {
				kind := next(&x) % 4
				if next(&x)%3 > 0 { // more is put, and then more is taken
					kind = next(&x)%2 + 2*(round%2)
				}
				steps = append(steps, [2]int{kind, next(&x)%210 - 3})
			}
			checkWay(t, w, steps)
		}
		for i := range 400 { // from the last one to the first one
			checkWay(t, w, [][2]int{{2 + i%2, max(len(w.l)-1-i%3, 0)}})
		}
		if len(w.l) != 0 {
			t.Errorf("seed %d: %s are left", seed, name(w.l))
		}
	}
}

// R3, R4: what is done to an answer changes no other answer.
func TestAskedAgain(t *testing.T) {
	over := let(-7, -7, "over")
	for _, l := range lists() {
		was := slices.Clone(l)
		for _, i := range []int{0, 1, len(l) - 1} {
			for range 2 {
				if len(l) < most {
					p, _ := Post(l, over)
					overwrite(p, over)
				}
				if i >= 0 && i < len(l) {
					_, p, _ := Take(l, i)
					q, _ := Lose(l, i)
					overwrite(p, over)
					r, _ := wantLose(was, i)
					if !slices.Equal(q, r) {
						t.Errorf("Lose(%s, %d) = %s", name(l), i, name(q))
					}
					overwrite(q, over)
				}
				overwrite(For(l, 1), -7)
				checkFor(t, l, 1, wantFor(was, 1)...)
				checkPlace(t, l, i)
			}
		}
		if !slices.Equal(l, was) {
			t.Errorf("%s, behind %s", name(l), name(was))
		}
	}
}

// The oracle itself: it tells each error, and all that is none.
func TestWantTellsAll(t *testing.T) {
	told := map[string]int{}
	for _, l := range lists() {
		for _, i := range places(len(l)) {
			_, e := wantCopy(l, i)
			told[fmt.Sprint("copy ", e)]++
			_, e = wantLose(l, i)
			told[fmt.Sprint("lose ", e)]++
			_, _, is := wantTake(l, i)
			told[fmt.Sprint("take ", is)]++
			_, e = wantPost(l, api.Letter{})
			told[fmt.Sprint("post ", e)]++
		}
	}
	for _, s := range []string{"copy 0", "copy 1", "copy 50", "lose 0", "lose 1", "take true", "take false", "post 0", "post 50"} {
		if told[s] < 50 {
			t.Errorf("%q is told %d times", s, told[s])
		}
	}
	if len(told) != 9 {
		t.Errorf("told: %v", told)
	}
}

func FuzzMail(f *testing.F) {
	f.Add(3, 1, "121", 1)
	f.Add(199, 198, "", 0)
	f.Add(200, -1, "abcabc", 97)
	f.Fuzz(func(t *testing.T, n, i int, tos string, to int) {
		l := many(int(uint(n) % 210))
		for k := range len(tos) {
			l = append(l, let(k, int(tos[k])-48, tos[:k]))
		}
		checkPlace(t, l, i)
		checkPlace(t, l, int(uint(i)%300)-5)
		checkFor(t, l, to, wantFor(l, to)...)
		checkFor(t, l, to%128, wantFor(l, to%128)...)
		want, e := wantPost(l, let(i, to, tos))
		checkPost(t, l, let(i, to, tos), want, e)
	})
}

func FuzzWay(f *testing.F) {
	f.Add([]byte{0, 4, 8, 1, 2, 3, 15})
	f.Fuzz(func(t *testing.T, does []byte) {
		var steps [][2]int
		for _, b := range does {
			steps = append(steps, [2]int{int(b % 4), int(b/4) - 2})
		}
		checkWay(t, &way{}, steps)
	})
}
