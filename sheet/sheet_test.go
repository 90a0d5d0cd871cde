package sheet

import (
	"bytes"
	"math"
	"slices"
	"testing"

	"handfast/api"
	"handfast/entry"
	"handfast/table"
)

// Numbers about each limit, and about those at which a number is narrowed.
var (
	ticksToTry   = []int{0, 1, 2, 3, 255, 256, 1<<31 - 1, 1 << 31, 1<<32 - 1, 1 << 32, 1<<40 - 1, 1 << 40, 1<<40 + 1, 1 << 41, 1<<48 - 1, 1 << 48, 1<<48 + 1, -1, -2, -3, -1 << 40, -1<<48 - 1, math.MinInt, math.MaxInt}
	bucketsToTry = []int{0, 1, 7, 14, 15, 16, 17, 31, 32, 255, 256, 257, 271, 1 << 32, 1<<32 + 3, -1, -2, -16, -256, math.MinInt, math.MaxInt}
)

// wrongEntries may not be, each by one number.
var wrongEntries = []api.Entry{
	{},
	{Cur: -1, Prev: 0, Gen: 1},
	{Cur: 1, Prev: 1, Gen: 1},
	{Cur: 6, Prev: -1, Gen: 1},
	{Cur: -2, Prev: -1, Gen: 1},
	{Cur: 255, Prev: -1, Gen: 1},
	{Cur: 1, Prev: 6, Gen: 1},
	{Cur: 1, Prev: -2, Gen: 1},
	{Cur: 1, Prev: 255, Gen: 1},
	{Cur: 1, Prev: -1, Gen: -1},
	{Cur: 1, Prev: -1, Gen: 1 << 31},
	{Cur: 1, Prev: -1, Gen: math.MaxInt},
	{Cur: 1, Prev: -1, Gen: 1, Tick: -1},
	{Cur: 1, Prev: -1, Gen: 1, Tick: 1<<40 + 1},
}

// rightEntries may be; they have each number at its least, its most.
var rightEntries = []api.Entry{
	{Cur: -1, Prev: -1},
	{Cur: 5, Prev: 4, Gen: 1<<31 - 1, Tick: 1 << 40},
	{Cur: 4, Prev: 5, Gen: 1, Tick: 1},
	{Cur: 0, Prev: -1, Gen: 1<<24 + 2, Tick: 1<<32 + 3},
	{Cur: -1, Prev: -1, Gen: 1<<31 - 1, Tick: 1 << 40},
}

// numbers gives the same numbers below n for the same seed, on every run.
func numbers(seed uint64) func(n int) int {
	return func(n int) int {
		seed = seed*6364136223846793005 + 1442695040888963407
		return int(seed >> 33 % uint64(n))
	}
}

// someEntry may be.
func someEntry(next func(int) int) api.Entry {
	cur := next(7) - 1
	prev := -1
	if cur >= 0 && next(2) == 0 {
		prev = (cur + 1 + next(5)) % 6
	}
	return api.Entry{Cur: cur, Prev: prev, Gen: next(1 << 31), Tick: next(1<<20) << next(21)}
}

// someTable may be.
func someTable(seed uint64) api.Table {
	next := numbers(seed)
	t := api.Table{Version: 1 + next(1<<20)<<next(20)}
	for i := range t.Rows {
		t.Rows[i] = someEntry(next)
	}
	return t
}

// later is t, some Versions further, with other rows in the buckets that bits
// has; their Gens are greater, less, or the same.
func later(t api.Table, bits int, seed uint64) api.Table {
	next := numbers(seed)
	t.Version += 1 + next(9)
	for bucket := range t.Rows {
		for was := t.Rows[bucket]; bits>>bucket&1 == 1 && t.Rows[bucket] == was; {
			t.Rows[bucket] = someEntry(next)
			if next(3) == 0 {
				t.Rows[bucket].Gen = was.Gen
			}
		}
	}
	return t
}

// someDelta may be: as many rows as bits has buckets.
func someDelta(bits int, seed uint64) api.Sheet {
	next := numbers(seed)
	s := api.Sheet{Base: next(1000)}
	s.To = s.Base + 1 + next(1<<30)
	for bucket := range 16 {
		if bits>>bucket&1 == 1 {
			s.Rows = append(s.Rows, api.Row{Bucket: bucket, Entry: someEntry(next)})
		}
	}
	return s
}

// someSnapshot may be.
func someSnapshot(seed uint64) api.Sheet {
	s := someDelta(0xffff, seed)
	s.Base = -1
	return s
}

// anySheet has numbers such as nothing makes.
func anySheet(seed uint64) api.Sheet {
	next := numbers(seed)
	s := api.Sheet{Base: ticksToTry[next(len(ticksToTry))], To: ticksToTry[next(len(ticksToTry))]}
	for range next(20) {
		s.Rows = append(s.Rows, api.Row{
			Bucket: bucketsToTry[next(len(bucketsToTry))],
			Entry:  append(wrongEntries, rightEntries...)[next(len(wrongEntries)+len(rightEntries))],
		})
	}
	return s
}

// sheets are some that may be, and some that nothing makes.
func sheets() []api.Sheet {
	l := []api.Sheet{{}, {Base: 3, To: 4}, {Base: -1, To: 4}, {To: 1, Rows: []api.Row{}}}
	for seed := range uint64(30) {
		bits := numbers(seed)(1 << 16)
		l = append(l, someDelta(bits, seed), someSnapshot(seed), anySheet(seed))
	}
	return l
}

// mayBe says the chapter's words of a sheet, another way.
func mayBe(s api.Sheet) bool {
	if s.To < 0 || s.To > 1099511627776 || s.Base < -1 || s.Base > s.To-1 {
		return false
	}
	var seen [16]int
	for i, r := range s.Rows {
		if r.Bucket < 0 || r.Bucket > 15 || seen[r.Bucket] > 0 || !entry.Right(r.Entry) {
			return false
		}
		if i > 0 && s.Rows[i-1].Bucket > r.Bucket {
			return false
		}
		seen[r.Bucket]++
	}
	return s.Base >= 0 || len(s.Rows) == 16
}

// slowBytes are a sheet's, by words of its chapter alone; it may be.
func slowBytes(s api.Sheet) []byte {
	base := s.Base + 1
	b := []byte{
		byte(base >> 40), byte(base >> 32), byte(base >> 24), byte(base >> 16), byte(base >> 8), byte(base),
		byte(s.To >> 40), byte(s.To >> 32), byte(s.To >> 24), byte(s.To >> 16), byte(s.To >> 8), byte(s.To),
		byte(len(s.Rows)),
	}
	for _, r := range s.Rows {
		e := r.Entry
		b = append(b, byte(r.Bucket), byte(e.Cur+1), byte(e.Prev+1))
		b = append(b, byte(e.Gen>>24), byte(e.Gen>>16), byte(e.Gen>>8), byte(e.Gen))
		b = append(b, byte(e.Tick>>40), byte(e.Tick>>32), byte(e.Tick>>24), byte(e.Tick>>16), byte(e.Tick>>8), byte(e.Tick))
	}
	return b
}

// alike says whether a and b have the same, another way than Same does.
func alike(a, b api.Sheet) bool {
	return a.Base == b.Base && a.To == b.To && slices.Equal(a.Rows, b.Rows)
}

// nothing says whether s is what stands beside an error.
func nothing(s api.Sheet) bool {
	return s.Base == 0 && s.To == 0 && len(s.Rows) == 0
}

// wantSheet asks that s may be, is put as the chapter says, and is taken again.
func wantSheet(t *testing.T, what string, s api.Sheet) {
	t.Helper()
	if !Right(s) {
		t.Errorf("%s: %v may not be", what, s)
	}
	b, e := Put(s)
	if e != api.OK || !bytes.Equal(b, slowBytes(s)) {
		t.Errorf("%s: Put(%v) = %v, %d", what, s, b, e)
	}
	wantTaken(t, what, slowBytes(s), s)
}

// wantTaken asks that b are the bytes of s.
func wantTaken(t *testing.T, what string, b []byte, s api.Sheet) {
	t.Helper()
	if got, e := Take(b); e != api.OK || !alike(got, s) {
		t.Errorf("%s: Take(%v) = %v, %d, not %v", what, b, got, e, s)
	}
}

// wantNone asks that s may not be, and is not put.
func wantNone(t *testing.T, what string, s api.Sheet) {
	t.Helper()
	if Right(s) {
		t.Errorf("%s: %v may be", what, s)
	}
	if b, e := Put(s); e != api.ErrArg || len(b) != 0 {
		t.Errorf("%s: Put(%v) = %v, %d", what, s, b, e)
	}
}

// wantError asks that b are no sheet's bytes, for that reason.
func wantError(t *testing.T, what string, b []byte, want api.Errno) {
	t.Helper()
	if s, e := Take(b); e != want || !nothing(s) {
		t.Errorf("%s: Take(%v) = %v, %d, not %d", what, b, s, e, want)
	}
}

// The chapter's example, and DOC.md's fourth: P11.2, P11.3.
func TestExample(t *testing.T) {
	from := someTable(1)
	s, e := Delta(from, later(from, 1<<3, 2))
	if e != api.OK || len(s.Rows) != 1 || s.Rows[0].Bucket != 3 {
		t.Fatalf("%v, %d", s, e)
	}
	if b, e := Put(s); e != api.OK || len(b) != 26 {
		t.Errorf("%d bytes, %d", len(b), e)
	}
}

// P11.3: bytes by hand, of a delta and of a snapshot.
func TestBytes(t *testing.T) {
	s := api.Sheet{Base: 0x010203040506, To: 0x010203040507, Rows: []api.Row{}}
	wantNone(t, "beyond the greatest To", s)
	s = api.Sheet{Base: 0xa1b2c3d4e4, To: 0xf1f2f3f4f5, Rows: []api.Row{
		{Bucket: 3, Entry: api.Entry{Cur: 5, Prev: 0, Gen: 0x71727374, Tick: 0x8182838485}},
		{Bucket: 15, Entry: api.Entry{Cur: -1, Prev: -1, Gen: 258, Tick: 1 << 40}},
	}}
	want := []byte{
		0, 0xa1, 0xb2, 0xc3, 0xd4, 0xe5, 0, 0xf1, 0xf2, 0xf3, 0xf4, 0xf5, 2,
		3, 6, 1, 0x71, 0x72, 0x73, 0x74, 0, 0x81, 0x82, 0x83, 0x84, 0x85,
		15, 0, 0, 0, 0, 1, 2, 1, 0, 0, 0, 0, 0,
	}
	if b, e := Put(s); e != api.OK || !bytes.Equal(b, want) {
		t.Errorf("%v, %d", b, e)
	}
	wantTaken(t, "by hand", want, s)
	first, _ := Of(table.New())
	want = []byte{0, 0, 0, 0, 0, 0, 0, 0, 0, 0, 0, 0, 16}
	for bucket := range 16 {
		want = append(want, byte(bucket), 0, 0, 0, 0, 0, 0, 0, 0, 0, 0, 0, 0)
	}
	if b, e := Put(first); e != api.OK || !bytes.Equal(b, want) {
		t.Errorf("of a new table: %v, %d", b, e)
	}
	wantTaken(t, "of a new table", want, first)
}

// P11.1, Right: To and Base at their limits, of deltas and of snapshots; what is
// put of Base and To is taken.
func TestBaseTo(t *testing.T) {
	for _, base := range append(ticksToTry, 4, 5, 6) {
		for _, to := range append(ticksToTry, 4, 5, 6) {
			delta, all := someDelta(0x0240, 3), someSnapshot(4)
			delta.Base, delta.To, all.Base, all.To = base, to, base, to
			if to < 0 || to > 1<<40 || base < -1 || base >= to {
				wantNone(t, "no Base, no To", delta)
				wantNone(t, "no Base, no To, all rows", all)
				continue
			}
			wantSheet(t, "all rows", all)
			if base == -1 {
				wantNone(t, "a snapshot of two rows", delta)
				continue
			}
			wantSheet(t, "a delta", delta)
		}
	}
	for _, to := range []int{0, 1, 1<<40 - 1, 1 << 40} {
		all := someSnapshot(5)
		for all.To, all.Base = to, to-1; all.Base < to+2; all.Base++ {
			if all.Base == to-1 {
				wantSheet(t, "one below To", all)
			} else {
				wantNone(t, "To, or beyond it", all)
			}
		}
	}
}

// P11.1, Right: how many rows: none to all of a delta, just all of a snapshot,
// never more, whichever bucket the one too many is of.
func TestHowMany(t *testing.T) {
	for n := range 17 {
		s := someDelta(1<<n-1, uint64(n))
		if len(s.Rows) != n {
			t.Fatalf("%d rows", len(s.Rows))
		}
		wantSheet(t, "a delta", s)
		s.Base = -1
		if n < 16 {
			wantNone(t, "a snapshot without all rows", s)
		} else {
			wantSheet(t, "a snapshot", s)
		}
	}
	for _, s := range []api.Sheet{someDelta(0xffff, 1), someSnapshot(2)} {
		for _, bucket := range bucketsToTry {
			more := Own(s)
			more.Rows = append(more.Rows, api.Row{Bucket: bucket, Entry: rightEntries[1]})
			wantNone(t, "17 rows", more)
			more.Rows = append([]api.Row{{Bucket: bucket, Entry: rightEntries[1]}}, s.Rows...)
			wantNone(t, "17 rows, the first too many", more)
		}
	}
	for _, n := range []int{256, 257, 272, 5000} {
		long := api.Sheet{Base: -1, To: 1}
		for i := range n {
			long.Rows = append(long.Rows, api.Row{Bucket: i, Entry: rightEntries[0]})
		}
		wantNone(t, "many rows", long)
	}
}

// P11.1, Right: a sheet without rows; of a snapshot it may not be, nil or empty.
func TestNoRows(t *testing.T) {
	wantSheet(t, "no rows", api.Sheet{Base: 0, To: 1})
	wantSheet(t, "empty rows", api.Sheet{Base: 0, To: 1, Rows: []api.Row{}})
	wantNone(t, "a snapshot of no rows", api.Sheet{Base: -1, To: 1})
	wantNone(t, "a snapshot of empty rows", api.Sheet{Base: -1, To: 0, Rows: []api.Row{}})
	wantNone(t, "nothing", api.Sheet{})
}

// P11.1, Right: each bucket alone, and what is none.
func TestBuckets(t *testing.T) {
	for _, bucket := range bucketsToTry {
		s := api.Sheet{Base: 5, To: 9, Rows: []api.Row{{Bucket: bucket, Entry: rightEntries[1]}}}
		if bucket >= 0 && bucket <= 15 {
			wantSheet(t, "one bucket", s)
		} else {
			wantNone(t, "no bucket", s)
		}
		for at, other := range someSnapshot(6).Rows {
			all := someSnapshot(6)
			all.Rows[at].Bucket = bucket
			if bucket == other.Bucket {
				wantSheet(t, "its own bucket", all)
			} else {
				wantNone(t, "another bucket in its place", all)
			}
		}
	}
}

// P11.1, Right: rows that do not rise: any two the other way about, any one
// twice.
func TestRising(t *testing.T) {
	for a := range 16 {
		for b := range 16 {
			s := api.Sheet{Base: 5, To: 9, Rows: []api.Row{
				{Bucket: a, Entry: rightEntries[1]}, {Bucket: b, Entry: rightEntries[2]},
			}}
			if a < b {
				wantSheet(t, "rising", s)
			} else {
				wantNone(t, "not rising", s)
			}
		}
	}
	for at := range 15 {
		for _, s := range []api.Sheet{someSnapshot(7), someDelta(0xffff, 8)} {
			s.Rows[at], s.Rows[at+1] = s.Rows[at+1], s.Rows[at]
			wantNone(t, "two the other way about", s)
			s.Rows[at] = s.Rows[at+1]
			wantNone(t, "one twice", s)
		}
	}
}

// P11.1, Right: entries in each place, at their limits, and those that may not
// be.
func TestEntries(t *testing.T) {
	for _, bits := range []int{0xffff, 0x8421, 1, 0x8000} {
		for at := range someDelta(bits, 9).Rows {
			for _, e := range rightEntries {
				s := someDelta(bits, 9)
				s.Rows[at].Entry = e
				wantSheet(t, "an entry that may be", s)
			}
			for _, e := range wrongEntries {
				s := someDelta(bits, 9)
				s.Rows[at].Entry = e
				wantNone(t, "an entry that may not be", s)
				if s.Base = -1; len(s.Rows) == 16 {
					wantNone(t, "an entry that may not be, in a snapshot", s)
				}
			}
		}
	}
}

// P11.1, P11.3: of all sheets that the tests try.
func TestWhatever(t *testing.T) {
	for _, s := range sheets() {
		if mayBe(s) {
			wantSheet(t, "of some", s)
		} else {
			wantNone(t, "of some", s)
		}
	}
}

// P11.1, Same: of any sheets, the numbers of each alone being others; nil rows
// and empty ones are the same.
func TestSame(t *testing.T) {
	all := sheets()
	for i, a := range all {
		for j, b := range all {
			if Same(a, b) != alike(a, b) || i == j && !Same(a, b) {
				t.Errorf("Same(%v, %v) is %v", a, b, Same(a, b))
			}
		}
		if !Same(a, Own(a)) || !Same(Own(a), a) {
			t.Errorf("%v is not its own", a)
		}
	}
	if !Same(api.Sheet{To: 1}, api.Sheet{To: 1, Rows: []api.Row{}}) || !Same(api.Sheet{Rows: make([]api.Row, 0, 5)}, api.Sheet{}) {
		t.Error("nil and empty are not the same")
	}
}

// P11.1, Same: one number other, in any row, of few rows and of many.
func TestSameButOne(t *testing.T) {
	changes := []func(*api.Row){
		func(r *api.Row) { r.Bucket++ },
		func(r *api.Row) { r.Entry.Cur++ },
		func(r *api.Row) { r.Entry.Prev-- },
		func(r *api.Row) { r.Entry.Gen += 1 << 32 },
		func(r *api.Row) { r.Entry.Tick -= 1 << 40 },
	}
	for _, n := range []int{1, 2, 15, 16, 17, 31, 32, 33, 48, 100} {
		s := api.Sheet{Base: 7, To: -3}
		for i := range n {
			s.Rows = append(s.Rows, api.Row{Bucket: i % 5, Entry: rightEntries[i%5]})
		}
		for at := range n {
			for i, change := range changes {
				other := Own(s)
				if !Same(s, other) {
					t.Fatalf("%d rows are not the same", n)
				}
				change(&other.Rows[at])
				if Same(s, other) || Same(other, s) {
					t.Errorf("of %d rows, with change %d in place %d the same", n, i, at)
				}
			}
			short := s
			short.Rows = s.Rows[:at]
			if Same(s, short) || Same(short, s) {
				t.Errorf("%d rows and %d are the same", n, at)
			}
		}
		base, to := Own(s), Own(s)
		base.Base, to.To = 8, 3
		if Same(s, base) || Same(s, to) || Same(base, to) {
			t.Error("with another Base, another To the same")
		}
	}
	zero := api.Sheet{Rows: make([]api.Row, 3)}
	if Same(zero, api.Sheet{}) || Same(api.Sheet{}, zero) || Same(zero, api.Sheet{Rows: make([]api.Row, 4)}) {
		t.Error("rows of all 0 are the same as none, or one more of them")
	}
}

// P11.1, Own: it is the same, and shares nothing, spare room included.
func TestOwn(t *testing.T) {
	for _, s := range sheets() {
		s.Rows = append(make([]api.Row, 0, 40), s.Rows...)
		was := slices.Clone(s.Rows)
		own := Own(s)
		if !alike(own, s) {
			t.Errorf("Own(%v) = %v", s, own)
		}
		for i := range own.Rows {
			own.Rows[i] = api.Row{Bucket: 99}
		}
		_ = append(own.Rows, api.Row{Bucket: 98})
		if !slices.Equal(s.Rows, was) || s.Rows[:40][len(s.Rows)] != (api.Row{}) {
			t.Errorf("%v has become %v", was, s.Rows[:40])
		}
	}
}

// P11.2, Of: all rows of a table, of its Version.
func TestOf(t *testing.T) {
	tables := []api.Table{table.New(), {Version: 1 << 40, Rows: table.New().Rows}}
	for seed := range uint64(30) {
		tables = append(tables, someTable(seed))
	}
	for _, from := range tables {
		s, e := Of(from)
		if e != api.OK || s.Base != -1 || s.To != from.Version || len(s.Rows) != 16 {
			t.Fatalf("Of(%v) = %v, %d", from, s, e)
		}
		for bucket, r := range s.Rows {
			if r.Bucket != bucket || r.Entry != from.Rows[bucket] {
				t.Errorf("row %d is %v, not of %v", bucket, r, from.Rows[bucket])
			}
		}
		wantSheet(t, "a snapshot", s)
	}
}

// wrongTables may not be: by their Version, or by one row.
func wrongTables() []api.Table {
	l := []api.Table{{}, {Version: 3}}
	for _, version := range []int{-1, -2, 1<<40 + 1, 1 << 48, math.MinInt, math.MaxInt} {
		l = append(l, api.Table{Version: version, Rows: table.New().Rows})
	}
	for bucket := range 16 {
		for _, e := range wrongEntries {
			wrong := someTable(uint64(bucket))
			wrong.Rows[bucket] = e
			l = append(l, wrong)
		}
	}
	return l
}

// P11.2: nothing is told of a table that may not be, whichever of the two.
func TestWrongTables(t *testing.T) {
	for _, wrong := range wrongTables() {
		if s, e := Of(wrong); e != api.ErrArg || !nothing(s) {
			t.Errorf("Of(%v) = %v, %d", wrong, s, e)
		}
		early, late := table.New(), someTable(1)
		late.Version = 1 << 40
		for _, pair := range [][2]api.Table{{wrong, late}, {early, wrong}, {wrong, wrong}} {
			if s, e := Delta(pair[0], pair[1]); e != api.ErrArg || !nothing(s) {
				t.Errorf("Delta(%v, %v) = %v, %d", pair[0], pair[1], s, e)
			}
		}
	}
}

// P11.2, P11.4, Delta: just the rows that changed, whichever they are, as the
// later table has them.
func TestDelta(t *testing.T) {
	for seed := range uint64(300) {
		from := someTable(seed)
		bits := numbers(seed)(1 << 16)
		if seed < 16 {
			bits = 1 << seed
		}
		to := later(from, bits, seed+1000)
		s, e := Delta(from, to)
		if e != api.OK || s.Base != from.Version || s.To != to.Version {
			t.Fatalf("Delta(%v, %v) = %v, %d", from, to, s, e)
		}
		var want []api.Row
		for bucket := range 16 {
			if bits>>bucket&1 == 1 {
				want = append(want, api.Row{Bucket: bucket, Entry: to.Rows[bucket]})
			}
		}
		if !slices.Equal(s.Rows, want) {
			t.Errorf("the delta of %v and %v has %v", from, to, s.Rows)
		}
		if changed := table.Changed(from, to); len(changed) != len(s.Rows) {
			t.Errorf("%d changed, %d rows", len(changed), len(s.Rows))
		}
		wantSheet(t, "a delta", s)
	}
}

// P11.2, Delta: rows that changed without a newer Gen are there, by any number
// that changed alone.
func TestDeltaNotNewer(t *testing.T) {
	from := table.New()
	for bucket := range from.Rows {
		from.Rows[bucket] = api.Entry{Cur: 2, Prev: 3, Gen: 8, Tick: 30}
	}
	for bucket := range 16 {
		for _, e := range []api.Entry{
			{Cur: 1, Prev: 3, Gen: 8, Tick: 30},
			{Cur: 2, Prev: -1, Gen: 8, Tick: 30},
			{Cur: 2, Prev: 3, Gen: 7, Tick: 30},
			{Cur: 2, Prev: 3, Gen: 0, Tick: 30},
			{Cur: 2, Prev: 3, Gen: 9, Tick: 30},
			{Cur: 2, Prev: 3, Gen: 8, Tick: 29},
			{Cur: 2, Prev: 3, Gen: 8, Tick: 31},
			{Cur: -1, Prev: -1, Gen: 0, Tick: 0},
		} {
			to := from
			to.Version = 4
			to.Rows[bucket] = e
			s, err := Delta(from, to)
			if err != api.OK || !slices.Equal(s.Rows, []api.Row{{Bucket: bucket, Entry: e}}) {
				t.Errorf("bucket %d, %v: %v, %d", bucket, e, s, err)
			}
		}
	}
}

// P11.2, Delta: from one Version to a greater one alone.
func TestDeltaVersions(t *testing.T) {
	for _, a := range ticksToTry {
		for _, b := range ticksToTry {
			from, to := someTable(3), someTable(4)
			from.Version, to.Version = a, b
			s, e := Delta(from, to)
			if a >= 0 && a < b && b <= 1<<40 {
				if e != api.OK || s.Base != a || s.To != b || len(s.Rows) != 16 {
					t.Errorf("from %d to %d: %v, %d", a, b, s, e)
				}
			} else if e != api.ErrArg || !nothing(s) {
				t.Errorf("from %d to %d: %v, %d", a, b, s, e)
			}
		}
	}
}

// P11.2, Delta: of tables alike in all but their Versions it has no rows, and 13
// bytes.
func TestDeltaAlike(t *testing.T) {
	for seed := range uint64(20) {
		from := someTable(seed)
		to := from
		to.Version++
		s, e := Delta(from, to)
		if e != api.OK || len(s.Rows) != 0 || s.Base != from.Version || s.To != to.Version {
			t.Errorf("%v, %d", s, e)
		}
		if b, e := Put(s); e != api.OK || len(b) != 13 {
			t.Errorf("%d bytes, %d", len(b), e)
		}
		if s, e := Delta(from, from); e != api.ErrArg || !nothing(s) {
			t.Errorf("of one table: %v, %d", s, e)
		}
		if s, e := Delta(to, from); e != api.ErrArg || !nothing(s) {
			t.Errorf("the other way about: %v, %d", s, e)
		}
	}
}

// P11.4: whoever has the one table and lays a delta's rows over it has the other
// one.
func TestDeltaLaidOver(t *testing.T) {
	for seed := range uint64(50) {
		from := someTable(seed)
		to := later(from, numbers(seed)(1<<16), seed)
		s, e := Delta(from, to)
		if e != api.OK {
			t.Fatalf("error %d", e)
		}
		for _, r := range s.Rows {
			from.Rows[r.Bucket] = r.Entry
		}
		if from.Rows != to.Rows {
			t.Errorf("%v, not %v", from.Rows, to.Rows)
		}
	}
}

// P11.3, Take: fewer bytes than 13, or than the rows have: ErrShort, whatever
// they are; more: ErrForm.
func TestTakeLengths(t *testing.T) {
	for n := range 17 {
		for _, fill := range []byte{0, 1, 255} {
			b := slowBytes(someDelta(1<<n-1, uint64(n)))
			for size := range len(b) {
				wantError(t, "too few", b[:size], api.ErrShort)
				wantError(t, "too few, of no sheet", bytes.Repeat([]byte{fill}, min(size, 12)), api.ErrShort)
			}
			for more := range 30 {
				if more > 0 {
					wantError(t, "too many", append(bytes.Clone(b), bytes.Repeat([]byte{fill}, more)...), api.ErrForm)
				}
			}
		}
	}
	wantError(t, "nil", nil, api.ErrShort)
	wantError(t, "empty", []byte{}, api.ErrShort)
}

// P11.3, Take: the count of rows decides which error is told, also where what
// stands ahead of it is no sheet's, and of counts beyond Buckets.
func TestTakeCount(t *testing.T) {
	for _, s := range []api.Sheet{someDelta(0xffff, 3), someSnapshot(4), someDelta(0x0101, 5)} {
		for count := range 256 {
			b := slowBytes(s)
			b[12] = byte(count)
			want := api.ErrForm
			if count > len(s.Rows) {
				want = api.ErrShort
			}
			if count == len(s.Rows) {
				wantTaken(t, "its count", b, s)
				continue
			}
			wantError(t, "another count", b, want)
			b[0] = 255
			wantError(t, "another count, no Base", b, want)
		}
	}
	for count := range 256 {
		b := append(make([]byte, 12, 13+13*count), byte(count))
		b[11] = 9 // To; Base is -1
		for i := range count {
			b = append(b, byte(i), 1, 0, 0, 0, 0, 1, 0, 0, 0, 0, 0, 1)
		}
		wantError(t, "one fewer", b[:len(b)-1], api.ErrShort)
		wantError(t, "one more", append(bytes.Clone(b), 0), api.ErrForm)
		if _, e := Take(b); (e == api.OK) != (count == 16) || e != api.OK && e != api.ErrForm {
			t.Errorf("%d rows: %d", count, e)
		}
	}
}

// P11.3, Take: bytes of no sheet that may be: Base, To, rows that do not rise,
// entries, each by hand.
func TestTakeNoSheet(t *testing.T) {
	wrong := func(what string, s api.Sheet) {
		t.Helper()
		wantError(t, what, slowBytes(s), api.ErrForm)
	}
	for _, bits := range []int{0xffff, 0x1248, 1, 0} {
		s := someDelta(bits, 6)
		base, to := s.Base, s.To
		for _, s.To = range []int{1<<40 + 1, 1 << 41, 1<<48 - 1, base, 0} {
			wrong("To", s)
		}
		s.To = to
		for _, s.Base = range []int{to, to + 1, 1 << 40, 1<<48 - 2} {
			wrong("Base", s)
		}
		s.Base = -1
		if bits != 0xffff {
			wrong("a snapshot without all rows", s)
		}
		for at := range s.Rows {
			wrongRows(t, someDelta(bits, 6), at)
			if bits == 0xffff {
				wrongRows(t, someSnapshot(6), at)
			}
		}
	}
	wrong("of no Base, of To 0, without rows", api.Sheet{Base: -1})
	wrong("Base and To 0", api.Sheet{})
}

// wrongRows asks that with the row at that place being one that may not be s has
// no bytes.
func wrongRows(t *testing.T, s api.Sheet, at int) {
	t.Helper()
	was := s.Rows[at]
	for _, e := range []api.Entry{
		{Cur: 6, Prev: -1}, {Cur: 254, Prev: -1}, {Cur: 1, Prev: 6}, {Cur: 1, Prev: 254}, {Cur: -1, Prev: 2}, {Cur: 4, Prev: 4},
		{Cur: 1, Prev: -1, Gen: 1 << 31}, {Cur: 1, Prev: -1, Gen: 1<<32 - 1},
		{Cur: 1, Prev: -1, Tick: 1<<40 + 1}, {Cur: 1, Prev: -1, Tick: 1<<48 - 1},
	} {
		s.Rows[at] = api.Row{Bucket: was.Bucket, Entry: e}
		wantError(t, "no entry", slowBytes(s), api.ErrForm)
	}
	for _, bucket := range []int{16, 17, 32, 128, 255} {
		s.Rows[at] = api.Row{Bucket: bucket, Entry: was.Entry}
		wantError(t, "no bucket", slowBytes(s), api.ErrForm)
	}
	s.Rows[at] = was
	if at > 0 {
		s.Rows[at].Bucket = s.Rows[at-1].Bucket
		wantError(t, "one bucket twice", slowBytes(s), api.ErrForm)
		s.Rows[at].Bucket, s.Rows[at-1].Bucket = s.Rows[at-1].Bucket, was.Bucket
		wantError(t, "not rising", slowBytes(s), api.ErrForm)
	}
}

// P11.4: each byte of a sheet as any other one: what is taken has just those
// bytes, and all that may be is taken.
func TestTakeEachByte(t *testing.T) {
	for _, s := range []api.Sheet{someDelta(0x0108, 7), someSnapshot(8), someDelta(0, 9)} {
		for at := range slowBytes(s) {
			for value := range 256 {
				b := slowBytes(s)
				b[at] = byte(value)
				got, e := Take(b)
				if e != api.OK {
					if (e != api.ErrForm && at != 12) || !nothing(got) || value == int(slowBytes(s)[at]) {
						t.Errorf("byte %d as %d: %v, %d", at, value, got, e)
					}
					continue
				}
				if back, e := Put(got); !mayBe(got) || e != api.OK || !bytes.Equal(back, b) {
					t.Errorf("byte %d as %d: %v, whose bytes are %v, %d", at, value, got, back, e)
				}
			}
		}
	}
}

// P11.4: whatever bytes are taken are just those that are put.
func TestTakenIsPut(t *testing.T) {
	next := numbers(77)
	taken := 0
	for range 20000 {
		count := next(4)
		b := append(make([]byte, 12), byte(count))
		for i := range 12 {
			if next(4) == 0 {
				b[i] = byte(next(3))
			}
		}
		for range count {
			for i := range 13 {
				b = append(b, byte(next([]int{16, 8, 8, 130, 3, 3, 3, 2, 3, 3, 3, 3, 3}[i])))
			}
		}
		s, e := Take(b)
		if e != api.OK {
			continue
		}
		taken++
		if back, e := Put(s); !mayBe(s) || e != api.OK || !bytes.Equal(back, b) {
			t.Errorf("%v is taken as %v, whose bytes are %v, %d", b, s, back, e)
		}
	}
	if taken < 1000 {
		t.Errorf("%d were taken", taken)
	}
}

// What is handed in is not changed, spare room included, and answers share
// nothing with it or with one another (R4; P11's first words).
func TestMemory(t *testing.T) {
	s := someDelta(0x00f0, 5)
	s.Rows = append(make([]api.Row, 0, 20), s.Rows...)
	rowsWere := slices.Clone(s.Rows[:20])
	b, _ := Put(s)
	again, _ := Put(s)
	b[0] ^= 255
	if bytes.Equal(b, again) || !slices.Equal(s.Rows[:20], rowsWere) {
		t.Error("bytes share memory with other ones, or the rows have changed")
	}
	room := append(again, 1, 2, 3)
	got, e := Take(room[:len(again)])
	other, _ := Take(again)
	for i := range room {
		room[i] = 0
	}
	if e != api.OK || !alike(got, s) || !alike(other, s) {
		t.Errorf("what was taken has become %v, %d", got, e)
	}
	got.Rows[0].Bucket = 9
	if !alike(other, s) {
		t.Error("what is taken twice shares memory")
	}
	from := someTable(1)
	to := later(from, 0x0ff0, 2)
	for _, tell := range []func() (api.Sheet, api.Errno){
		func() (api.Sheet, api.Errno) { return Of(to) },
		func() (api.Sheet, api.Errno) { return Delta(from, to) },
	} {
		x, _ := tell()
		y, _ := tell()
		x.Rows[0] = api.Row{Bucket: 77}
		if alike(x, y) || y.Rows[0].Bucket == 77 {
			t.Error("sheets share memory")
		}
	}
}

// The same arguments have the same answers (R3), many times.
func TestSameAnswers(t *testing.T) {
	from := someTable(1)
	to := later(from, 0x5a5a, 2)
	first, _ := Delta(from, to)
	b, _ := Put(first)
	for range 50 {
		s, e := Delta(from, to)
		c, f := Put(s)
		g, h := Take(c)
		if e != api.OK || f != api.OK || h != api.OK || !Same(s, first) || !Same(g, first) || !bytes.Equal(b, c) {
			t.Fatal("another answer")
		}
	}
}
