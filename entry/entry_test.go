package entry

import (
	"math"
	"slices"
	"testing"

	"handfast/api"
)

// least and most have each number at its least, at its most; most's Prev is
// one less, as it may not be Cur.
var (
	least = api.Entry{Cur: -1, Prev: -1, Gen: 0, Tick: 0}
	most  = api.Entry{Cur: 5, Prev: 4, Gen: 1<<31 - 1, Tick: 1 << 40}
)

// rightOnesToTry may be, wrongOnesToTry may not; among both there are several
// of one Gen, and great Gens.
var (
	rightOnesToTry = []api.Entry{
		{Cur: -1, Prev: -1},
		{Cur: -1, Prev: -1, Tick: 9},
		{Cur: 0, Prev: -1},
		{Cur: 1, Prev: 0, Gen: 1},
		{Cur: 2, Prev: -1, Gen: 1, Tick: 5},
		{Cur: -1, Prev: -1, Gen: 2},
		{Cur: 5, Prev: 4, Gen: 2},
		{Cur: 3, Prev: -1, Gen: 1<<31 - 1, Tick: 1 << 40},
		{Cur: 4, Prev: -1, Gen: 1<<31 - 1},
	}
	wrongOnesToTry = []api.Entry{
		{},
		{Cur: 1, Prev: 1, Gen: 2},
		{Cur: -1, Prev: 0, Gen: 1},
		{Cur: 6, Prev: -1, Gen: 3},
		{Cur: 1, Prev: -2, Gen: 1<<31 - 1},
		{Cur: 1, Prev: -1, Gen: 1 << 31},
		{Cur: 1, Prev: -1, Gen: -1},
		{Cur: 1, Prev: -1, Gen: 4, Tick: 1<<40 + 1},
		{Cur: 1, Prev: -1, Gen: math.MaxInt, Tick: -1},
	}
)

// Numbers about each limit, and about those at which a number is narrowed.
var (
	backendsToTry = []int{-1, 0, 1, 2, 3, 4, 5, 6, 7, -2, -3, 15, 16, 127, 128, 254, 255, 256, 257, -255, -256, -257, 1 << 32, 1<<32 - 1, 1<<32 + 1, -1 << 32, math.MinInt, math.MaxInt}
	gensToTry     = []int{0, 1, 2, 255, 256, 1<<16 - 1, 1 << 16, 1<<31 - 2, 1<<31 - 1, 1 << 31, 1<<31 + 1, 1<<32 - 1, 1 << 32, 1<<32 + 1, -1, -2, -1 << 31, -1 << 32, math.MinInt, math.MaxInt}
	ticksToTry    = []int{0, 1, 2, 255, 256, 1<<31 - 1, 1 << 31, 1<<32 - 1, 1 << 32, 1<<40 - 1, 1 << 40, 1<<40 + 1, 1<<48 + 1, -1, -2, -1 << 40, math.MinInt, math.MaxInt}
)

// mayBe asks by the chapter's words whether e may be, one after the other:
// another way than Right's.
func mayBe(e api.Entry) bool {
	backends := []int{-1, 0, 1, 2, 3, 4, 5}
	switch {
	case !slices.Contains(backends, e.Cur), !slices.Contains(backends, e.Prev):
		return false
	case e.Gen < 0, e.Gen > 2147483647, e.Tick < 0, e.Tick > 1099511627776:
		return false
	case e.Cur == -1:
		return e.Prev == -1
	}
	return e.Prev != e.Cur
}

// slowMerge looks for the place of the newest one, from the last one on:
// another way than Merge's.
func slowMerge(l []api.Entry) api.Entry {
	at := -1
	for i := len(l) - 1; i >= 0; i-- {
		if mayBe(l[i]) && (at < 0 || l[i].Gen >= l[at].Gen) {
			at = i
		}
	}
	if at < 0 {
		return api.Entry{Cur: -1, Prev: -1}
	}
	return l[at]
}

// numbers gives the same numbers below n for the same seed, on every run.
func numbers(seed uint64, n int) func() int {
	return func() int {
		seed = seed*6364136223846793005 + 1442695040888963407
		return int(seed >> 33 % uint64(n))
	}
}

// someEntries are n that may be, with few Gens, so that several have the same.
func someEntries(seed uint64, n int) []api.Entry {
	next := numbers(seed, 1<<20)
	l := make([]api.Entry, n)
	for i := range l {
		cur := next()%7 - 1
		prev := -1
		if cur >= 0 && next()%2 == 0 {
			prev = (cur + 1 + next()%5) % 6
		}
		l[i] = api.Entry{Cur: cur, Prev: prev, Gen: next() % 9, Tick: next()}
	}
	return l
}

// lists calls f with all lists of up to n of pool.
func lists(pool []api.Entry, n int, f func([]api.Entry)) {
	var longer func(l []api.Entry)
	longer = func(l []api.Entry) {
		f(slices.Clone(l))
		if len(l) == n {
			return
		}
		for _, e := range pool {
			longer(append(slices.Clip(l), e))
		}
	}
	longer(nil)
}

// wantMerged asks that l merged is want.
func wantMerged(t *testing.T, what string, want api.Entry, l ...api.Entry) {
	t.Helper()
	if got := Merge(l...); got != want {
		t.Errorf("%s: Merge(%v) = %v, not %v", what, l[:min(len(l), 8)], got, want)
	}
}

// wantHolders asks that want are the holders of e.
func wantHolders(t *testing.T, e api.Entry, want ...int) {
	t.Helper()
	if got := Holders(e); !slices.Equal(got, want) {
		t.Errorf("Holders(%v) = %v, not %v", e, got, want)
	}
}

// P9.1, Right: of entries of ordinary numbers.
func TestRight(t *testing.T) {
	for _, e := range append(slices.Clone(rightOnesToTry), least, most, None()) {
		if !Right(e) {
			t.Errorf("%v may not be", e)
		}
	}
	for _, e := range wrongOnesToTry {
		if Right(e) {
			t.Errorf("%v may be", e)
		}
	}
}

// P9.1, Right: each number at its limits, one below them, one above them, the
// others being right.
func TestRightLimits(t *testing.T) {
	for _, base := range append(slices.Clone(rightOnesToTry), least, most) {
		for _, n := range gensToTry {
			e := base
			e.Gen = n
			if want := n >= 0 && n <= 2147483647; Right(e) != want {
				t.Errorf("Right(%v) is %v", e, !want)
			}
		}
		for _, n := range ticksToTry {
			e := base
			e.Tick = n
			if want := n >= 0 && n <= 1099511627776; Right(e) != want {
				t.Errorf("Right(%v) is %v", e, !want)
			}
		}
		for _, n := range backendsToTry {
			e := base
			e.Cur = n
			if want := mayBe(e); Right(e) != want {
				t.Errorf("Right(%v) is %v", e, !want)
			}
			e = base
			e.Prev = n
			if want := mayBe(e); Right(e) != want {
				t.Errorf("Right(%v) is %v", e, !want)
			}
		}
	}
}

// P9.1, Right: nobody has somebody ahead of it, nobody is ahead of itself; of
// all pairs of Cur and Prev just 1 + 6 * 6 may be.
func TestRightPairs(t *testing.T) {
	var often int
	for cur := -4; cur <= 9; cur++ {
		for prev := -4; prev <= 9; prev++ {
			e := api.Entry{Cur: cur, Prev: prev, Gen: 7, Tick: 8}
			if Right(e) != mayBe(e) {
				t.Errorf("Right(%v) is %v", e, !mayBe(e))
			}
			if Right(e) {
				often++
			}
		}
	}
	if often != 37 {
		t.Errorf("%d pairs may be", often)
	}
}

// P9.1 and R1, Right: whatever the numbers are, all together.
func TestRightWhatever(t *testing.T) {
	for _, cur := range backendsToTry {
		for _, prev := range backendsToTry {
			for _, gen := range gensToTry {
				for _, tick := range ticksToTry {
					e := api.Entry{Cur: cur, Prev: prev, Gen: gen, Tick: tick}
					if Right(e) != mayBe(e) {
						t.Fatalf("Right(%v) is %v", e, !mayBe(e))
					}
				}
			}
		}
	}
}

// P9.1, None: nobody's, and it may be.
func TestNone(t *testing.T) {
	if e := None(); e != (api.Entry{Cur: -1, Prev: -1, Gen: 0, Tick: 0}) {
		t.Errorf("None is %v", e)
	}
	if !Right(None()) {
		t.Error("None may not be")
	}
}

// P9.1, Newer: the greater Gen counts, and nothing else, of entries that may be
// and of others.
func TestNewer(t *testing.T) {
	others := []api.Entry{{}, {Cur: 5, Prev: 4, Tick: 1 << 40}, {Cur: -1, Prev: -1, Tick: 3}, {Cur: 99, Prev: -99, Tick: -1}}
	for _, a := range others {
		for _, b := range others {
			for _, m := range gensToTry {
				for _, n := range gensToTry {
					a.Gen, b.Gen = m, n
					if Newer(a, b) != (m > n) {
						t.Fatalf("Newer(%v, %v) is %v", a, b, m <= n)
					}
				}
			}
		}
	}
}

// P9.1, Merge: the chapter's example, in both orders.
func TestExample(t *testing.T) {
	third := api.Entry{Cur: 1, Prev: -1, Gen: 3, Tick: 20}
	fifth := api.Entry{Cur: 2, Prev: 1, Gen: 5, Tick: 10}
	wantMerged(t, "rising", fifth, third, fifth)
	wantMerged(t, "the other way about", fifth, fifth, third)
}

// P9.1 and R1, Merge: none, if none is handed in, and if none may be.
func TestMergeNone(t *testing.T) {
	none := api.Entry{Cur: -1, Prev: -1}
	wantMerged(t, "nothing", none)
	wantMerged(t, "nil", none, nil...)
	wantMerged(t, "empty", none, []api.Entry{}...)
	wantMerged(t, "all of the wrong ones", none, wrongOnesToTry...)
	for _, e := range wrongOnesToTry {
		wantMerged(t, "a wrong one", none, e)
		wantMerged(t, "a wrong one, again and again", none, e, e, e)
	}
}

// P9.1, Merge: of one it is that one; None is one, too.
func TestMergeOne(t *testing.T) {
	for _, e := range append(slices.Clone(rightOnesToTry), least, most, None()) {
		wantMerged(t, "one", e, e)
		wantMerged(t, "the same again", e, e, e)
	}
}

// P9.1, Merge: of several of one Gen the first one, whatever else they have, and
// at Gen 0 too.
func TestMergeOneGen(t *testing.T) {
	for _, gen := range []int{0, 1, 7, 1<<31 - 1} {
		a := api.Entry{Cur: 1, Prev: -1, Gen: gen, Tick: 5}
		b := api.Entry{Cur: 2, Prev: 1, Gen: gen, Tick: 9}
		c := api.Entry{Cur: -1, Prev: -1, Gen: gen, Tick: 1}
		wantMerged(t, "a first", a, a, b, c)
		wantMerged(t, "b first", b, b, c, a)
		wantMerged(t, "c first", c, c, a, b)
		wantMerged(t, "c first, the other way about", c, c, b, a)
		wantMerged(t, "with a wrong one ahead", b, api.Entry{Gen: gen}, b, a)
	}
	low := api.Entry{Cur: 3, Prev: -1, Gen: 4}
	a := api.Entry{Cur: 1, Prev: -1, Gen: 5}
	b := api.Entry{Cur: 2, Prev: -1, Gen: 5}
	wantMerged(t, "an older one ahead", a, low, a, b)
	wantMerged(t, "an older one between", b, b, low, a)
	wantMerged(t, "an older one behind", a, a, b, low)
	zero := api.Entry{Cur: 0, Prev: -1}
	wantMerged(t, "None ahead", None(), None(), zero)
	wantMerged(t, "None behind", zero, zero, None())
}

// P9.1, Merge: what may not be counts for nothing, wherever it stands, however
// great its Gen is.
func TestMergeWrongOnes(t *testing.T) {
	for _, wrong := range wrongOnesToTry {
		for _, gen := range []int{wrong.Gen, 3, 1<<31 - 1, math.MaxInt} {
			wrong.Gen = gen
			if mayBe(wrong) {
				continue
			}
			for _, e := range rightOnesToTry {
				wantMerged(t, "a wrong one ahead", e, wrong, e)
				wantMerged(t, "a wrong one behind", e, e, wrong)
				wantMerged(t, "wrong ones all about", e, wrong, wrong, e, wrong)
			}
		}
	}
}

// P9.1, Merge: all lists of up to three of those that may be and of some that
// may not, all of up to six of a few.
func TestMergeAll(t *testing.T) {
	check := func(l []api.Entry) { wantMerged(t, "a list", slowMerge(l), l...) }
	lists(append(slices.Clone(rightOnesToTry), wrongOnesToTry...), 3, check)
	lists([]api.Entry{rightOnesToTry[2], rightOnesToTry[3], rightOnesToTry[4], rightOnesToTry[6], wrongOnesToTry[5]}, 6, check)
}

// P9.1, Merge: long lists, the newest one at either end, or anywhere.
func TestMergeLong(t *testing.T) {
	for seed := range uint64(40) {
		l := someEntries(seed, 500)
		for i := range l {
			if i%7 == int(seed%7) {
				l[i].Prev = l[i].Cur + 9
			}
		}
		wantMerged(t, "a long list", slowMerge(l), l...)
	}
	l := slices.Repeat(rightOnesToTry[:7], 30000)
	newest := api.Entry{Cur: 1, Prev: -1, Gen: 3}
	wantMerged(t, "the newest one first", newest, slices.Concat([]api.Entry{newest}, l)...)
	wantMerged(t, "the newest one last", newest, slices.Concat(l, []api.Entry{newest})...)
}

// P9.1, R3 and R4, Merge: what is handed in stays as it is, what lies behind it
// is not looked at, and the same is answered again.
func TestMergeLeaves(t *testing.T) {
	room := append(slices.Clone(rightOnesToTry[:6]), api.Entry{Cur: 1, Prev: -1, Gen: 99}, wrongOnesToTry[0])
	was := slices.Clone(room)
	for range 3 {
		wantMerged(t, "ahead of the room", rightOnesToTry[5], room[:6]...)
	}
	if !slices.Equal(room, was) {
		t.Errorf("%v has become %v", was, room)
	}
}

// P9.3: merged in two parts, in three, or one by one, it is the same, whatever
// they are, as long as in each part there is one that may be.
func TestMergeInParts(t *testing.T) {
	check := func(l []api.Entry) {
		for i := 1; i < len(l); i++ {
			wantMerged(t, "in two parts", slowMerge(l), Merge(l[:i]...), Merge(l[i:]...))
			wantMerged(t, "in one part, then all else", slowMerge(l), append([]api.Entry{Merge(l[:i]...)}, l[i:]...)...)
			wantMerged(t, "in all else, then one part", slowMerge(l), append(slices.Clone(l[:i]), Merge(l[i:]...))...)
			for k := i + 1; k < len(l); k++ {
				parts := []api.Entry{Merge(l[:i]...), Merge(l[i:k]...), Merge(l[k:]...)}
				wantMerged(t, "in three parts", slowMerge(l), parts...)
			}
		}
	}
	lists(rightOnesToTry, 4, check)
	for seed := range uint64(40) {
		check(someEntries(seed, 30))
	}
}

// P9.3: the same where parts have none that may be, or nothing, as long as one
// is there that is newer than None, or they stand behind.
func TestMergeInPartsWithNone(t *testing.T) {
	for _, e := range rightOnesToTry {
		for _, wrong := range wrongOnesToTry {
			wantMerged(t, "wrong ones behind", e, Merge(e), Merge(wrong, wrong))
			wantMerged(t, "nothing behind", e, Merge(wrong, e), Merge())
			if e.Gen == 0 {
				continue
			}
			wantMerged(t, "wrong ones ahead", e, Merge(wrong, wrong), Merge(e, wrong))
			wantMerged(t, "nothing ahead", e, Merge(), Merge(e))
		}
	}
	lists(append(slices.Clone(wrongOnesToTry[:4]), rightOnesToTry[3:7]...), 4, func(l []api.Entry) {
		want := slowMerge(l)
		if want.Gen == 0 {
			return
		}
		for i := range len(l) + 1 {
			wantMerged(t, "in two parts", want, Merge(l[:i]...), Merge(l[i:]...))
		}
	})
}

// P9.3: one by one, as a row is told again and again, late or doubled: it is
// what all of them together are.
func TestMergeOneByOne(t *testing.T) {
	for seed := range uint64(60) {
		l := someEntries(seed, 40)
		row := l[0]
		for i, e := range l {
			row = Merge(row, e)
			if want := slowMerge(l[:i+1]); row != want {
				t.Fatalf("behind %d: %v, not %v", i+1, row, want)
			}
			wantMerged(t, "doubled", row, row, e)
			wantMerged(t, "all of them again", row, slices.Concat([]api.Entry{row}, l[:i+1])...)
		}
	}
}

// P9.3: what is not newer changes nothing, what is newer counts, and what may
// not be changes nothing either.
func TestMergeNotNewer(t *testing.T) {
	for _, a := range rightOnesToTry {
		for _, b := range rightOnesToTry {
			want := a
			if b.Gen > a.Gen {
				want = b
			}
			wantMerged(t, "two", want, a, b)
			wantMerged(t, "two, and both again", want, a, b, b, a)
		}
		for _, b := range wrongOnesToTry {
			wantMerged(t, "a wrong one", a, a, b)
		}
	}
}

// P9.2, Holders: Cur and Prev, in this order, without -1.
func TestHolders(t *testing.T) {
	wantHolders(t, api.Entry{Cur: 3, Prev: 1, Gen: 2, Tick: 9}, 3, 1)
	wantHolders(t, api.Entry{Cur: 1, Prev: 3}, 1, 3)
	wantHolders(t, api.Entry{Cur: 0, Prev: 5}, 0, 5)
	wantHolders(t, api.Entry{Cur: 5, Prev: 0}, 5, 0)
	wantHolders(t, api.Entry{Cur: 0, Prev: -1, Gen: 4}, 0)
	wantHolders(t, api.Entry{Cur: 4, Prev: -1}, 4)
	wantHolders(t, None())
	wantHolders(t, api.Entry{Cur: -1, Prev: -1, Gen: 7, Tick: 8})
}

// P9.2 and R1, Holders and Moving: of entries that may not be as well, -1 alone
// being left out.
func TestHoldersAndMovingOfAny(t *testing.T) {
	wantHolders(t, api.Entry{}, 0, 0)
	wantHolders(t, api.Entry{Cur: -1, Prev: 2}, 2)
	wantHolders(t, api.Entry{Cur: 2, Prev: 2}, 2, 2)
	wantHolders(t, api.Entry{Cur: -2, Prev: 99, Gen: -1, Tick: -1}, -2, 99)
	for _, cur := range backendsToTry {
		for _, prev := range backendsToTry {
			for _, gen := range gensToTry {
				e := api.Entry{Cur: cur, Prev: prev, Gen: gen, Tick: -gen}
				want := slices.DeleteFunc([]int{cur, prev}, func(n int) bool { return n == -1 })
				wantHolders(t, e, want...)
				if Moving(e) != (prev != -1) {
					t.Fatalf("Moving(%v) is %v", e, prev == -1)
				}
			}
		}
	}
}

// P9.2, Moving: whether there is one ahead of Cur.
func TestMoving(t *testing.T) {
	for _, e := range []api.Entry{{Cur: 1, Prev: 0}, {Cur: 0, Prev: 5, Gen: 3, Tick: 4}, {}, {Cur: -1, Prev: 3}, {Cur: 1, Prev: -2}} {
		if !Moving(e) {
			t.Errorf("%v is not moving", e)
		}
	}
	for _, e := range []api.Entry{None(), {Cur: 0, Prev: -1}, {Cur: 5, Prev: -1, Gen: 3, Tick: 4}, {Cur: -9, Prev: -1, Gen: -3}} {
		if Moving(e) {
			t.Errorf("%v is moving", e)
		}
	}
}

// R4, Holders: each answer is in memory of its own.
func TestHoldersOwn(t *testing.T) {
	for _, e := range []api.Entry{{Cur: 3, Prev: 1}, {Cur: 3, Prev: -1}, {Cur: -1, Prev: 3}} {
		was := Holders(e)
		first, second := Holders(e), Holders(e)
		first[0] = 77
		_ = append(first[:1], 78)
		if !slices.Equal(second, was) || !slices.Equal(Holders(e), was) {
			t.Errorf("the holders of %v: %v, then %v", e, second, Holders(e))
		}
	}
}
