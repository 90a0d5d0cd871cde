package table

import (
	"math"
	"slices"
	"testing"

	"handfast/api"
	"handfast/entry"
)

// Numbers about each limit, and about those at which a number is narrowed.
var (
	bucketsToTry  = []int{0, 1, 7, 14, 15, 16, 17, -1, -2, -15, -16, 31, 32, 127, 128, 254, 255, 256, 271, -256, 1 << 16, 1 << 32, 1<<32 + 3, -1 << 32, math.MinInt, math.MaxInt}
	versionsToTry = []int{0, 1, 2, 255, 256, 1<<31 - 1, 1 << 31, 1<<32 - 1, 1 << 32, 1<<40 - 1, 1 << 40, 1<<40 + 1, 1 << 41, 1<<48 + 1, -1, -2, -1 << 40, math.MinInt, math.MaxInt}
	backendsToTry = []int{0, 1, 2, 3, 4, 5, 6, 7, 8, -1, -2, 15, 16, 127, 128, 255, 256, 257, -255, -256, 1 << 32, 1<<32 + 1, math.MinInt, math.MaxInt}
)

// wrongRows may not be, each by one number, whatever table they stand in; all
// of them are newer than any row that the tests' tables have.
var wrongRows = []api.Entry{
	{Cur: -1, Prev: 0, Gen: 1 << 30},
	{Cur: 1, Prev: 1, Gen: 1 << 30},
	{Cur: 6, Prev: -1, Gen: 1 << 30},
	{Cur: -2, Prev: -1, Gen: 1 << 30},
	{Cur: 1, Prev: 6, Gen: 1 << 30},
	{Cur: 1, Prev: -2, Gen: 1 << 30},
	{Cur: 1, Prev: -1, Gen: 1 << 31},
	{Cur: 1, Prev: -1, Gen: math.MaxInt},
	{Cur: 1, Prev: -1, Gen: 1 << 30, Tick: -1},
	{Cur: 1, Prev: -1, Gen: 1 << 30, Tick: 1<<40 + 1},
}

// rightRows may be; the first ones have each number at its least, its most.
var rightRows = []api.Entry{
	{Cur: -1, Prev: -1},
	{Cur: 5, Prev: 4, Gen: 1<<31 - 1, Tick: 1 << 40},
	{Cur: 0, Prev: -1, Gen: 1},
	{Cur: 0, Prev: 5, Gen: 7, Tick: 9},
	{Cur: -1, Prev: -1, Gen: 4, Tick: 3},
}

// numbers gives the same numbers below n for the same seed, on every run.
func numbers(seed uint64) func(n int) int {
	return func(n int) int {
		seed = seed*6364136223846793005 + 1442695040888963407
		return int(seed >> 33 % uint64(n))
	}
}

// someTable may be; few Gens, so that of two tables rows have the same.
func someTable(seed uint64) api.Table {
	next := numbers(seed)
	t := api.Table{Version: next(1 << 20)}
	for i := range t.Rows {
		cur := next(7) - 1
		prev := -1
		if cur >= 0 && next(2) == 0 {
			prev = (cur + 1 + next(5)) % 6
		}
		t.Rows[i] = api.Entry{Cur: cur, Prev: prev, Gen: next(5), Tick: next(50)}
	}
	return t
}

// anyTable has numbers such as nothing makes.
func anyTable(seed uint64) api.Table {
	next := numbers(seed)
	t := api.Table{Version: versionsToTry[next(len(versionsToTry))]}
	for i := range t.Rows {
		t.Rows[i] = api.Entry{
			Cur:  backendsToTry[next(len(backendsToTry))],
			Prev: backendsToTry[next(len(backendsToTry))],
			Gen:  versionsToTry[next(len(versionsToTry))],
			Tick: versionsToTry[next(len(versionsToTry))],
		}
	}
	return t
}

// tables are some that may be, and some that nothing makes.
func tables() []api.Table {
	l := []api.Table{{}, New(), byHand(0, 1, 1, 2)}
	for seed := range uint64(30) {
		l = append(l, someTable(seed), anyTable(seed))
	}
	return l
}

// byHand has these as Cur of its first rows; the others are nobody's.
func byHand(curs ...int) api.Table {
	t := api.Table{Version: 50}
	for i := range t.Rows {
		t.Rows[i] = api.Entry{Cur: -1, Prev: -1, Gen: 3}
		if i < len(curs) {
			t.Rows[i].Cur = curs[i]
		}
	}
	return t
}

// wantSet asks that t with e in its bucket is what the chapter's words say, and
// that nothing else changes.
func wantSet(t *testing.T, from api.Table, bucket int, e api.Entry) api.Table {
	t.Helper()
	want := from
	want.Rows[bucket] = e
	want.Version = from.Version + 1
	got, err := Set(from, bucket, e)
	if err != api.OK || got != want {
		t.Fatalf("Set(%v, %d, %v) = %v, %d", from, bucket, e, got, err)
	}
	return got
}

// wantRefused asks that e is not set, and nothing is told.
func wantRefused(t *testing.T, what string, from api.Table, bucket int, e api.Entry) {
	t.Helper()
	if got, err := Set(from, bucket, e); err != api.ErrArg || got != (api.Table{}) {
		t.Errorf("%s: Set(%v, %d, %v) = %v, %d", what, from, bucket, e, got, err)
	}
}

// wantBuckets asks that got are want.
func wantBuckets(t *testing.T, what string, got []int, want ...int) {
	t.Helper()
	if !slices.Equal(got, want) {
		t.Errorf("%s: %v, not %v", what, got, want)
	}
}

// The chapter's example: P10.1, P10.2.
func TestExample(t *testing.T) {
	got, err := Set(New(), 3, api.Entry{Cur: 1, Prev: -1, Gen: 1})
	if err != api.OK || got.Version != 1 {
		t.Fatalf("Version %d, error %d", got.Version, err)
	}
	if l := Loads(got); l != [6]int{0, 1, 0, 0, 0, 0} {
		t.Errorf("loads %v", l)
	}
	if n := Spread(got, 1|2); n != 1 {
		t.Errorf("the spread of 0 and 1 is %d", n)
	}
}

// P10.1, New: of Version 0, each row nobody's, and it may be.
func TestNew(t *testing.T) {
	n := New()
	if n.Version != 0 || len(n.Rows) != 16 {
		t.Errorf("Version %d, %d rows", n.Version, len(n.Rows))
	}
	for bucket, e := range n.Rows {
		if e != (api.Entry{Cur: -1, Prev: -1, Gen: 0, Tick: 0}) {
			t.Errorf("bucket %d: %v", bucket, e)
		}
	}
	if !Right(n) {
		t.Error("a new one may not be")
	}
	n.Rows[4].Cur = 2
	if New().Rows[4].Cur != -1 {
		t.Error("what was told before has changed it")
	}
}

// P10.1, Right: Version at its limits, one below them, one above them.
func TestRightVersion(t *testing.T) {
	for _, from := range []api.Table{New(), byHand(0, 1, 2), someTable(1)} {
		for _, v := range versionsToTry {
			from.Version = v
			if want := v >= 0 && v <= 1099511627776; Right(from) != want {
				t.Errorf("of Version %d: %v", v, !want)
			}
		}
	}
}

// P10.1, Right: each row counts, whichever it is, and one that may not be is
// enough.
func TestRightRows(t *testing.T) {
	for seed := range uint64(20) {
		from := someTable(seed)
		if !Right(from) {
			t.Fatalf("%v may not be", from)
		}
		for bucket := range api.Buckets {
			for _, e := range rightRows {
				next := from
				next.Rows[bucket] = e
				if !Right(next) {
					t.Errorf("with %v in bucket %d it may not be", e, bucket)
				}
			}
			for _, e := range wrongRows {
				next := from
				next.Rows[bucket] = e
				if Right(next) {
					t.Errorf("with %v in bucket %d it may be", e, bucket)
				}
			}
		}
	}
}

// P10.1, Right: of nothing, and of all tables that the tests try; what rows may
// be is what entry.Right says.
func TestRightWhatever(t *testing.T) {
	if Right(api.Table{}) {
		t.Error("nothing may be: its rows have themselves ahead")
	}
	for _, from := range tables() {
		want := from.Version >= 0 && from.Version <= 1<<40
		for bucket := 15; bucket >= 0; bucket-- {
			want = want && entry.Right(from.Rows[bucket])
		}
		if Right(from) != want {
			t.Errorf("Right(%v) is %v", from, !want)
		}
	}
}

// P10.1, Row: of each bucket the one in its place, of any table; nothing, no, of
// no bucket.
func TestRow(t *testing.T) {
	for _, from := range tables() {
		for bucket, want := range from.Rows {
			if e, ok := Row(from, bucket); !ok || e != want {
				t.Errorf("bucket %d: %v, %v, not %v", bucket, e, ok, want)
			}
		}
		for _, bucket := range bucketsToTry {
			is := bucket >= 0 && bucket <= 15
			e, ok := Row(from, bucket)
			if ok != is || !is && e != (api.Entry{}) {
				t.Errorf("bucket %d: %v, %v", bucket, e, ok)
			}
		}
	}
}

// P10.1, P10.4, Set: in each bucket, the others being as they were, and Version
// one more; what was handed in stays as it was.
func TestSet(t *testing.T) {
	for seed := range uint64(20) {
		from := someTable(seed)
		was := from
		for bucket := range api.Buckets {
			for _, gen := range []int{from.Rows[bucket].Gen + 1, from.Rows[bucket].Gen + 9, 1<<31 - 1} {
				wantSet(t, from, bucket, api.Entry{Cur: 5, Prev: 0, Gen: gen, Tick: 1 << 40})
				wantSet(t, from, bucket, api.Entry{Cur: 0, Prev: -1, Gen: gen})
				wantSet(t, from, bucket, api.Entry{Cur: -1, Prev: -1, Gen: gen, Tick: 4})
			}
		}
		if from != was {
			t.Errorf("%v has become %v", was, from)
		}
	}
}

// P10.1, Set: one behind the other, Version rises by one each, up to the greatest
// one, from which nothing goes on.
func TestSetVersions(t *testing.T) {
	at := New()
	for i := range 200 {
		at = wantSet(t, at, i*7%16, api.Entry{Cur: i % 6, Prev: -1, Gen: i + 1, Tick: 200 - i})
		if at.Version != i+1 {
			t.Fatalf("behind %d: Version %d", i+1, at.Version)
		}
	}
	at.Version = 1<<40 - 1
	at = wantSet(t, at, 0, api.Entry{Cur: 1, Prev: -1, Gen: 1000})
	wantRefused(t, "the greatest Version", at, 0, api.Entry{Cur: 1, Prev: -1, Gen: 1001})
	if !Right(at) {
		t.Error("of the greatest Version it may not be")
	}
}

// P10.1, Set: a row that is not newer than the one in its own place; the other
// rows' Gens count for nothing, and nothing but Gen does.
func TestSetNotNewer(t *testing.T) {
	from := New()
	for bucket := range from.Rows {
		from.Rows[bucket] = api.Entry{Cur: bucket % 6, Prev: -1, Gen: 100 * (bucket + 1), Tick: 50}
	}
	for bucket := range from.Rows {
		gen := 100 * (bucket + 1)
		for _, old := range []int{gen, gen - 1, gen - 99, 0} {
			wantRefused(t, "not newer", from, bucket, api.Entry{Cur: 3, Prev: 4, Gen: old, Tick: 51})
			wantRefused(t, "not newer, the same but for that", from, bucket, api.Entry{Cur: bucket % 6, Prev: -1, Gen: old, Tick: 50})
			wantRefused(t, "not newer, nobody's", from, bucket, api.Entry{Cur: -1, Prev: -1, Gen: old})
		}
		wantSet(t, from, bucket, api.Entry{Cur: bucket % 6, Prev: -1, Gen: gen + 1, Tick: 50})
		wantSet(t, from, bucket, api.Entry{Cur: bucket % 6, Prev: -1, Gen: gen + 1, Tick: 0})
	}
	wantRefused(t, "Gen 0 in a new one", New(), 3, api.Entry{Cur: 1, Prev: -1})
	wantRefused(t, "None in a new one", New(), 3, entry.None())
	last := New()
	last.Rows[9].Gen = 1<<31 - 1
	wantRefused(t, "Gen at its end", last, 9, api.Entry{Cur: 1, Prev: -1, Gen: 1<<31 - 1})
	wantRefused(t, "Gen beyond its end", last, 9, api.Entry{Cur: 1, Prev: -1, Gen: 1 << 31})
}

// P10.1, Set: of no bucket, whatever number it is.
func TestSetNoBucket(t *testing.T) {
	for _, bucket := range bucketsToTry {
		e := api.Entry{Cur: 1, Prev: -1, Gen: 9}
		if bucket >= 0 && bucket <= 15 {
			wantSet(t, someTable(3), bucket, e)
			continue
		}
		wantRefused(t, "no bucket", someTable(3), bucket, e)
		wantRefused(t, "no bucket of a new one", New(), bucket, e)
	}
}

// P10.1, Set: a row that may not be, however new it is.
func TestSetWrongRow(t *testing.T) {
	for _, e := range wrongRows {
		for bucket := range api.Buckets {
			wantRefused(t, "a wrong row", someTable(4), bucket, e)
			wantRefused(t, "a wrong row in a new one", New(), bucket, e)
		}
	}
	wantRefused(t, "a Gen below 0", New(), 0, api.Entry{Cur: 1, Prev: -1, Gen: -1})
	wantRefused(t, "nothing", New(), 0, api.Entry{})
}

// P10.1, Set: a table that may not be, by its Version or by any row, that of the
// bucket itself too.
func TestSetWrongTable(t *testing.T) {
	e := api.Entry{Cur: 1, Prev: -1, Gen: 1<<31 - 1}
	wantRefused(t, "nothing", api.Table{}, 0, e)
	for _, v := range versionsToTry {
		from := someTable(5)
		from.Version = v
		if v >= 0 && v < 1<<40 {
			wantSet(t, from, 2, e)
		} else {
			wantRefused(t, "a Version", from, 2, e)
		}
	}
	for _, wrong := range append(slices.Clone(wrongRows), api.Entry{}, api.Entry{Cur: 1, Prev: -1, Gen: -1}) {
		for at := range api.Buckets {
			from := someTable(6)
			from.Rows[at] = wrong
			for _, bucket := range []int{0, at, 15} {
				wantRefused(t, "a wrong row is there", from, bucket, e)
			}
		}
	}
}

// P10.2, Loads: by hand.
func TestLoads(t *testing.T) {
	for _, c := range []struct {
		from api.Table
		want [6]int
	}{
		{New(), [6]int{}},
		{api.Table{}, [6]int{16}},
		{byHand(0, 1, 1, 2), [6]int{1, 2, 1}},
		{byHand(5, 4, 5, 3, 5, -1, 5, 0), [6]int{1, 0, 0, 1, 1, 4}},
		{byHand(2, 2, 2, 2, 2, 2, 2, 2, 2, 2, 2, 2, 2, 2, 2, 2), [6]int{0, 0, 16}},
		{byHand(6, -2, 7, 255, 256, math.MaxInt, math.MinInt, 5), [6]int{0, 0, 0, 0, 0, 1}},
	} {
		if got := Loads(c.from); got != c.want {
			t.Errorf("Loads(%v) = %v, not %v", c.from, got, c.want)
		}
	}
}

// P10.2, Loads: who is ahead of Cur counts for nothing, nor does a Gen, a Tick,
// a Version.
func TestLoadsByCurAlone(t *testing.T) {
	from := byHand(0, 1, 1, 2)
	want := Loads(from)
	from.Version = 9
	for i := range from.Rows {
		from.Rows[i].Prev = 5
		from.Rows[i].Gen = i * 7
		from.Rows[i].Tick = i
	}
	if got := Loads(from); got != want {
		t.Errorf("%v, not %v", got, want)
	}
}

// P10.2, P10.4, Loads and Of: of any table; together loads are as many as there
// are rows with a Cur that is a backend, and each is as many as its buckets.
func TestLoadsTogether(t *testing.T) {
	for _, from := range tables() {
		var together, rowsOf int
		for backend, load := range Loads(from) {
			together += load
			if got := len(Of(from, backend)); got != load {
				t.Errorf("backend %d of %v: load %d, %d buckets", backend, from, load, got)
			}
		}
		for _, e := range from.Rows {
			if e.Cur >= 0 && e.Cur <= 5 {
				rowsOf++
			}
		}
		if together != rowsOf {
			t.Errorf("%v: %d together, %d rows with a Cur", from, together, rowsOf)
		}
	}
}

// P10.2, Spread: by hand.
func TestSpread(t *testing.T) {
	from := byHand(0, 0, 0, 0, 0, 1, 1, 1, 2, 4) // loads 5, 3, 1, 0, 1, 0
	for _, c := range []struct {
		backends uint8
		want     int
	}{
		{0, 0},
		{1, 0}, {2, 0}, {4, 0}, {8, 0}, {16, 0}, {32, 0},
		{1 | 2, 2}, {1 | 4, 4}, {1 | 8, 5}, {2 | 4, 2}, {2 | 8, 3}, {4 | 8, 1}, {4 | 16, 0}, {8 | 32, 0},
		{1 | 2 | 4, 4}, {2 | 4 | 16, 2}, {4 | 8 | 16 | 32, 1}, {63, 5}, {62, 3},
		{64, 0}, {128, 0}, {192, 0}, {64 | 1, 0}, {128 | 1, 0}, {192 | 2, 0}, {192 | 1 | 2, 2}, {192 | 4 | 8, 1}, {255, 5}, {254, 3},
	} {
		if got := Spread(from, c.backends); got != c.want {
			t.Errorf("the spread of %08b is %d, not %d", c.backends, got, c.want)
		}
	}
}

// P10.2, Spread: of all sets, of any table: the greatest one of what any two of
// them differ by, and bits from MaxBackends on count for nothing.
func TestSpreadOfAllSets(t *testing.T) {
	for _, from := range tables() {
		loads := Loads(from)
		for set := range 256 {
			want := 0
			for a := range 6 {
				for b := range 6 {
					if set>>a&1 == 1 && set>>b&1 == 1 {
						want = max(want, loads[a]-loads[b])
					}
				}
			}
			if got := Spread(from, uint8(set)); got != want {
				t.Fatalf("the spread of %08b of %v is %d, not %d", set, loads, got, want)
			}
		}
	}
}

// P10.2, Spread: of none, and of one, it is 0, whatever the table is; where all
// have as many, too.
func TestSpreadOfNone(t *testing.T) {
	for _, from := range tables() {
		for _, none := range []uint8{0, 64, 128, 192} {
			if got := Spread(from, none); got != 0 {
				t.Errorf("of none: %d", got)
			}
			for one := range 6 {
				if got := Spread(from, none|1<<one); got != 0 {
					t.Errorf("of %d alone: %d", one, got)
				}
			}
		}
	}
	if got := Spread(byHand(0, 1, 2, 3, 4, 5, 5, 4, 3, 2, 1, 0), 63); got != 0 {
		t.Errorf("all have 2: %d", got)
	}
	if got := Spread(byHand(3, 3, 3, 3, 3, 3, 3, 3, 3, 3, 3, 3, 3, 3, 3, 3), 8|1); got != 16 {
		t.Errorf("one has all: %d", got)
	}
}

// P10.2, Of: the buckets, rising; that it is ahead of Cur counts for nothing.
func TestOf(t *testing.T) {
	from := byHand(3, 0, 3, 5, 0, 3)
	from.Rows[15].Cur = 3
	from.Rows[6] = api.Entry{Cur: 1, Prev: 3, Gen: 4}
	wantBuckets(t, "3's", Of(from, 3), 0, 2, 5, 15)
	wantBuckets(t, "0's", Of(from, 0), 1, 4)
	wantBuckets(t, "5's", Of(from, 5), 3)
	wantBuckets(t, "1's", Of(from, 1), 6)
	wantBuckets(t, "2's", Of(from, 2))
	wantBuckets(t, "6's", Of(from, 6))
	wantBuckets(t, "a great number's", Of(from, math.MaxInt))
	wantBuckets(t, "the least number's", Of(from, math.MinInt))
	wantBuckets(t, "one's of a new one", Of(New(), 0))
	wantBuckets(t, "who has all", Of(api.Table{}, 0), 0, 1, 2, 3, 4, 5, 6, 7, 8, 9, 10, 11, 12, 13, 14, 15)
}

// P10.2 and R1, Of: of any table, any number, just the rows with it as Cur.
func TestOfWhatever(t *testing.T) {
	for _, from := range tables() {
		for _, who := range backendsToTry {
			var want []int
			for bucket := range 16 {
				if e, _ := Row(from, bucket); e.Cur == who {
					want = append(want, bucket)
				}
			}
			wantBuckets(t, "just those", Of(from, who), want...)
		}
	}
}

// P10.3, Changed: by hand; whatever number of a row has changed, and not the
// Version.
func TestChanged(t *testing.T) {
	a := someTable(7)
	b := a
	wantBuckets(t, "of a table and itself", Changed(a, a))
	b.Version++
	wantBuckets(t, "of two Versions alike", Changed(a, b))
	b.Rows[0].Cur++
	b.Rows[3].Prev++
	b.Rows[9].Gen++
	b.Rows[15].Tick++
	wantBuckets(t, "of four rows", Changed(a, b), 0, 3, 9, 15)
	wantBuckets(t, "the other way about", Changed(b, a), 0, 3, 9, 15)
	wantBuckets(t, "of nothing and a new one", Changed(api.Table{}, New()), 0, 1, 2, 3, 4, 5, 6, 7, 8, 9, 10, 11, 12, 13, 14, 15)
	for bucket := range 16 {
		c := a
		c.Rows[bucket].Gen--
		wantBuckets(t, "of one row", Changed(a, c), bucket)
	}
}

// P10.3, Changed: of any two tables.
func TestChangedWhatever(t *testing.T) {
	for _, a := range tables() {
		for _, b := range tables() {
			var want []int
			for bucket := range 16 {
				if a.Rows[bucket] != b.Rows[bucket] {
					want = append(want, bucket)
				}
			}
			wantBuckets(t, "of two", Changed(a, b), want...)
			wantBuckets(t, "the other way about", Changed(b, a), want...)
		}
	}
}

// P10.1, P10.3, Changed and Set: by one row set just that one has changed.
func TestChangedBySet(t *testing.T) {
	at := someTable(8)
	for i := range 100 {
		bucket := i * 5 % 16
		next := wantSet(t, at, bucket, api.Entry{Cur: i % 6, Prev: -1, Gen: 10 + i})
		wantBuckets(t, "by one set", Changed(at, next), bucket)
		at = next
	}
}

// P10.3, Merge: by hand, newer, older, and of one Gen, where a's counts.
func TestMerge(t *testing.T) {
	a, b := New(), New()
	a.Version, b.Version = 7, 5
	a.Rows[1] = api.Entry{Cur: 1, Prev: -1, Gen: 3, Tick: 9}
	b.Rows[1] = api.Entry{Cur: 2, Prev: 1, Gen: 4, Tick: 8}
	a.Rows[2] = api.Entry{Cur: 1, Prev: -1, Gen: 5}
	b.Rows[2] = api.Entry{Cur: 2, Prev: 1, Gen: 4, Tick: 99}
	a.Rows[3] = api.Entry{Cur: 1, Prev: -1, Gen: 6, Tick: 1}
	b.Rows[3] = api.Entry{Cur: 2, Prev: 1, Gen: 6, Tick: 2}
	b.Rows[4] = api.Entry{Cur: 3, Prev: -1, Tick: 2} // of Gen 0, as the row of a new one
	b.Rows[15] = api.Entry{Cur: -1, Prev: -1, Gen: 1}
	want := a
	want.Rows[1], want.Rows[15] = b.Rows[1], b.Rows[15]
	if got := Merge(a, b); got != want {
		t.Errorf("%v, not %v", got, want)
	}
	want = b
	want.Version = 7
	want.Rows[2] = a.Rows[2]
	if got := Merge(b, a); got != want {
		t.Errorf("the other way about: %v, not %v", got, want)
	}
}

// P10.3, P10.4, Merge: with itself a table is the same, whatever it is.
func TestMergeItself(t *testing.T) {
	for _, a := range tables() {
		if got := Merge(a, a); got != a {
			t.Errorf("%v has become %v", a, got)
		}
	}
}

// P10.3, P10.4, Merge: of any two tables each row is the one that the words say,
// those that may not be too; of two that may be it may be. Merged again, by
// either, it is the same.
func TestMergeWhatever(t *testing.T) {
	for _, a := range tables() {
		for _, b := range tables() {
			got := Merge(a, b)
			want := api.Table{Version: a.Version}
			if b.Version > a.Version {
				want.Version = b.Version
			}
			for bucket := range 16 {
				want.Rows[bucket] = a.Rows[bucket]
				if b.Rows[bucket].Gen > a.Rows[bucket].Gen {
					want.Rows[bucket] = b.Rows[bucket]
				}
			}
			if got != want {
				t.Fatalf("Merge(%v, %v) = %v", a, b, got)
			}
			if Right(a) && Right(b) && !Right(got) {
				t.Errorf("Merge(%v, %v) may not be", a, b)
			}
			if Merge(got, a) != got || Merge(got, b) != got {
				t.Errorf("merged again, %v is another one", got)
			}
		}
	}
}

// P10.3, P10.1, Merge and Set: a table that has gone on by Set, merged with what
// it was, in either order, is what it has become.
func TestMergeBehindSet(t *testing.T) {
	at := someTable(9)
	was := []api.Table{at}
	for i := range 60 {
		at = wantSet(t, at, i*11%16, api.Entry{Cur: i % 6, Prev: -1, Gen: 10 + i, Tick: i})
		was = append(was, at)
	}
	for i, old := range was {
		for _, now := range was[i:] {
			if Merge(old, now) != now || Merge(now, old) != now {
				t.Fatalf("Versions %d and %d merged are another one", old.Version, now.Version)
			}
		}
	}
}

// R4: lists are told in memory of their own, spare room included.
func TestListsOwn(t *testing.T) {
	a, b := byHand(1, 2, 1), byHand(2, 2, 2)
	for what, list := range map[string]func() []int{
		"Of":      func() []int { return Of(a, 1) },
		"Changed": func() []int { return Changed(a, b) },
	} {
		first, second := list(), list()
		was := slices.Clone(second)
		for i := range first[:cap(first)] {
			first[:cap(first)][i] = 77
		}
		if !slices.Equal(second, was) || !slices.Equal(list(), was) {
			t.Errorf("%s: %v, then %v", what, was, list())
		}
	}
}
