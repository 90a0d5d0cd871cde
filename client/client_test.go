package client

import (
	"bytes"
	"math"
	"slices"
	"testing"

	"handfast/api"
	"handfast/entry"
	"handfast/sheet"
	"handfast/table"
)

// versionsToTry are some about each limit; the first ones may be.
var (
	rightVersions = []int{0, 1, 2, 3, 255, 1 << 31, 1 << 32, 1<<40 - 1, 1 << 40}
	wrongVersions = []int{-1, -2, -1 << 40, 1<<40 + 1, 1 << 41, 1 << 48, math.MinInt, math.MaxInt}
	bucketsToTry  = []int{-1, 16, 17, 31, 32, 255, 256, 257, 1 << 32, 1<<32 + 3, -2, -16, -256, math.MinInt, math.MaxInt}
)

// wrongEntries may not be, each by one number.
var wrongEntries = []api.Entry{
	{},
	{Cur: -1, Prev: 0, Gen: 1},
	{Cur: 1, Prev: 1, Gen: 1},
	{Cur: 6, Prev: -1, Gen: 1},
	{Cur: -2, Prev: -1, Gen: 1},
	{Cur: 1, Prev: 6, Gen: 1},
	{Cur: 1, Prev: -2, Gen: 1},
	{Cur: 1, Prev: -1, Gen: -1},
	{Cur: 1, Prev: -1, Gen: 1 << 31},
	{Cur: 1, Prev: -1, Gen: 1, Tick: -1},
	{Cur: 1, Prev: -1, Gen: 1, Tick: 1<<40 + 1},
}

// rightEntries may be; they have each number at its least, its most.
var rightEntries = []api.Entry{
	{Cur: -1, Prev: -1},
	{Cur: 5, Prev: 4, Gen: 1<<31 - 1, Tick: 1 << 40},
	{Cur: 4, Prev: 5, Gen: 1, Tick: 1},
	{Cur: 0, Prev: -1, Gen: 1 << 24, Tick: 1 << 32},
	{Cur: -1, Prev: -1, Gen: 1<<31 - 1, Tick: 1 << 40},
}

// numbers gives the same numbers below n for the same seed, on every run.
func numbers(seed uint64) func(n int) int {
	return func(n int) int {
		seed = seed*6364136223846793005 + 1442695040888963407
		return int(seed >> 33 % uint64(n))
	}
}

// someEntry may be; its Gen is below gens.
func someEntry(next func(int) int, gens int) api.Entry {
	cur := next(7) - 1
	prev := -1
	if cur >= 0 && next(2) == 0 {
		prev = (cur + 1 + next(5)) % 6
	}
	return api.Entry{Cur: cur, Prev: prev, Gen: next(gens), Tick: next(1 << 20)}
}

// someClient may be, and has a table; its Gens are few, so that they meet those
// of others.
func someClient(version int, seed uint64) api.Client {
	next := numbers(seed)
	c := api.Client{Has: true, Table: api.Table{Version: version}}
	for bucket := range c.Table.Rows {
		c.Table.Rows[bucket] = someEntry(next, 5)
	}
	return c
}

// someSheet may be: it has the rows of the buckets that bits has; a snapshot
// has all.
func someSheet(base, to, bits int, seed uint64) api.Sheet {
	next := numbers(seed)
	s := api.Sheet{Base: base, To: to}
	for bucket := range 16 {
		if base == -1 || bits>>bucket&1 == 1 {
			s.Rows = append(s.Rows, api.Row{Bucket: bucket, Entry: someEntry(next, 5)})
		}
	}
	return s
}

// rightClients may be: some have a table, one has none.
func rightClients() []api.Client {
	l := []api.Client{{}, {Has: true, Table: table.New()}}
	for i, version := range rightVersions {
		l = append(l, someClient(version, uint64(i)))
	}
	return l
}

// wrongClients may not be: each by one thing.
func wrongClients() []api.Client {
	l := []api.Client{{Has: true}, {Table: table.New()}, {Table: someClient(3, 1).Table}}
	for _, version := range wrongVersions {
		l = append(l, someClient(version, 7), api.Client{Table: api.Table{Version: version}})
	}
	for bucket := range 16 {
		for _, e := range wrongEntries {
			c := someClient(5, 8)
			c.Table.Rows[bucket] = e
			l = append(l, c)
		}
		for _, e := range []api.Entry{{Cur: 1}, {Prev: -1}, {Gen: 1}, {Tick: 1}} {
			var c api.Client
			c.Table.Rows[bucket] = e
			l = append(l, c)
		}
	}
	return append(l, api.Client{Table: api.Table{Version: 1}})
}

// rightSheets may be: snapshots, and deltas of many rows, of one, of none.
func rightSheets() []api.Sheet {
	l := []api.Sheet{{To: 1}, {Base: 2, To: 3, Rows: []api.Row{}}, {Base: 1<<40 - 1, To: 1 << 40}}
	for i, to := range rightVersions {
		seed := uint64(i)
		l = append(l, someSheet(-1, to, 0, seed))
		for _, base := range rightVersions {
			if base < to {
				l = append(l, someSheet(base, to, numbers(seed)(1<<16), seed), someSheet(base, to, 1<<i, seed))
			}
		}
	}
	return l
}

// wrongSheets may not be: each by one thing.
func wrongSheets() []api.Sheet {
	l := []api.Sheet{{}, {Base: -1, To: 3}, {Base: 3, To: 3}, {Base: 4, To: 3}, {Base: -2, To: 3}, {Base: 1, To: 1<<40 + 1}}
	for i := range 16 {
		s := someSheet(-1, 4, 0, uint64(i))
		s.Rows = slices.Delete(s.Rows, i, i+1)
		l = append(l, s)
		s = someSheet(0, 4, 0xffff, uint64(i))
		s.Rows[i].Bucket = bucketsToTry[i%len(bucketsToTry)]
		l = append(l, s)
		s = someSheet(0, 4, 0xffff, uint64(i))
		s.Rows[i], s.Rows[(i+1)%16] = s.Rows[(i+1)%16], s.Rows[i]
		l = append(l, s)
		for _, e := range wrongEntries {
			s = someSheet(i%2-1, 4, 0xffff, uint64(i))
			s.Rows[i].Entry = e
			l = append(l, s)
		}
	}
	s := someSheet(0, 4, 0xffff, 1)
	return append(l, api.Sheet{To: 4, Rows: append(s.Rows, s.Rows[15])})
}

// taken says the chapter's words of a client and a sheet that may be, another
// way: each bucket's row is looked for on its own.
func taken(c api.Client, s api.Sheet) (api.Client, bool, api.Errno) {
	if s.Base != -1 && (!c.Has || c.Table.Version < s.Base) {
		return c, false, api.ErrGap
	}
	if c.Has && c.Table.Version >= s.To {
		return c, false, api.OK
	}
	then := api.Client{Has: true}
	then.Table.Version = s.To
	for bucket := range 16 {
		e := api.Entry{Cur: -1, Prev: -1}
		if c.Has {
			e = c.Table.Rows[bucket]
		}
		for _, r := range s.Rows {
			if r.Bucket == bucket && r.Entry.Gen > e.Gen {
				e = r.Entry
			}
		}
		then.Table.Rows[bucket] = e
	}
	return then, true, api.OK
}

// check asks that got is want, with w, of the call that name tells.
func check(t *testing.T, name string, got, want api.Client, yes, wantYes bool, e, wantE api.Errno) {
	t.Helper()
	if got != want || yes != wantYes || e != wantE {
		t.Errorf("%s: %v %v %v, want %v %v %v", name, got, yes, e, want, wantYes, wantE)
	}
}

func TestRight(t *testing.T) { // P12.1
	for i, c := range rightClients() {
		if !Right(c) {
			t.Errorf("%d: %v may be", i, c)
		}
	}
	for i, c := range wrongClients() {
		if Right(c) {
			t.Errorf("%d: %v may not be", i, c)
		}
	}
}

func TestRightEntries(t *testing.T) { // P12.1
	for bucket := range 16 {
		for _, e := range rightEntries {
			c := someClient(5, 8)
			c.Table.Rows[bucket] = e
			if !Right(c) {
				t.Errorf("%d, %v: may be", bucket, e)
			}
			c.Has = false
			if Right(c) {
				t.Errorf("%d, %v: has a table that it has not", bucket, e)
			}
		}
	}
}

func TestNew(t *testing.T) { // P12.1
	c := New()
	if c != (api.Client{}) || !Right(c) || Has(c) != -1 {
		t.Error(c, Right(c), Has(c))
	}
	for bucket := range 16 {
		if e, ok := Row(c, bucket); ok || e != (api.Entry{}) {
			t.Error(bucket, e, ok)
		}
	}
}

func TestHas(t *testing.T) { // P12.1
	for _, version := range append(rightVersions, wrongVersions...) {
		c := someClient(version, 3)
		if got := Has(c); got != version {
			t.Errorf("%d: %d", version, got)
		}
		c.Has = false
		if got := Has(c); got != -1 {
			t.Errorf("%d: none, but %d", version, got)
		}
	}
	if got := Has(api.Client{Has: true}); got != 0 {
		t.Error(got)
	}
}

func TestRow(t *testing.T) { // P12.1
	for i, c := range append(rightClients(), wrongClients()...) {
		for bucket := range 16 {
			want := c.Table.Rows[bucket]
			if !c.Has {
				want = api.Entry{}
			}
			if e, ok := Row(c, bucket); ok != c.Has || e != want {
				t.Errorf("%d, bucket %d: %v %v, want %v", i, bucket, e, ok, want)
			}
		}
		for _, bucket := range bucketsToTry {
			if e, ok := Row(c, bucket); ok || e != (api.Entry{}) {
				t.Errorf("%d, bucket %d: %v %v", i, bucket, e, ok)
			}
		}
	}
}

func TestExample(t *testing.T) { // P12.2
	c := New()
	for i, x := range []struct {
		base, to, has int
		yes           bool
		e             api.Errno
	}{{-1, 3, 3, true, api.OK}, {2, 5, 5, true, api.OK}, {7, 8, 5, false, api.ErrGap}} {
		got, yes, e := Take(c, someSheet(x.base, x.to, 1<<i, uint64(i)))
		if Has(got) != x.has || yes != x.yes || e != x.e {
			t.Errorf("%d: %d %v %v", i, Has(got), yes, e)
		}
		if !yes && got != c {
			t.Errorf("%d: not as it was", i)
		}
		c = got
	}
}

func TestTakeVersions(t *testing.T) { // P12.2
	for i, x := range []struct {
		has, base, to int // has -1: none
		yes           bool
		e             api.Errno
	}{
		{-1, -1, 0, true, api.OK},
		{-1, -1, 1 << 40, true, api.OK},
		{-1, 0, 1, false, api.ErrGap},
		{-1, 1<<40 - 1, 1 << 40, false, api.ErrGap},
		{0, -1, 0, false, api.OK},
		{0, -1, 1, true, api.OK},
		{0, 0, 1, true, api.OK},
		{0, 1, 2, false, api.ErrGap},
		{4, -1, 3, false, api.OK},
		{4, -1, 4, false, api.OK},
		{4, -1, 5, true, api.OK},
		{4, 0, 3, false, api.OK},
		{4, 0, 4, false, api.OK},
		{4, 0, 5, true, api.OK},
		{4, 3, 4, false, api.OK},
		{4, 3, 5, true, api.OK},
		{4, 4, 5, true, api.OK},
		{4, 5, 6, false, api.ErrGap},
		{4, 1<<40 - 1, 1 << 40, false, api.ErrGap},
		{1<<40 - 1, 1<<40 - 1, 1 << 40, true, api.OK},
		{1 << 40, 1<<40 - 1, 1 << 40, false, api.OK},
		{1 << 40, -1, 1 << 40, false, api.OK},
	} {
		c := New()
		if x.has >= 0 {
			c = someClient(x.has, uint64(i))
		}
		got, yes, e := Take(c, someSheet(x.base, x.to, 0x1234, uint64(i+100)))
		if yes != x.yes || e != x.e {
			t.Errorf("%d: %v %v", i, yes, e)
		}
		if yes && Has(got) != x.to || !yes && got != c {
			t.Errorf("%d: %v of %v", i, got, c)
		}
	}
}

// Of each row that a sheet has just that one counts that is newer; of others
// nothing is changed, whatever else is in them.
func TestTakeRows(t *testing.T) { // P12.2
	was := api.Entry{Cur: 2, Prev: 3, Gen: 4, Tick: 9}
	for bucket := range 16 {
		for _, x := range []struct {
			e     api.Entry
			newer bool
		}{
			{was, false},
			{api.Entry{Cur: 5, Prev: 1, Gen: 4, Tick: 10}, false},
			{api.Entry{Cur: 5, Prev: 1, Gen: 3, Tick: 1 << 40}, false},
			{api.Entry{Cur: -1, Prev: -1}, false},
			{api.Entry{Cur: 5, Prev: 1, Gen: 5}, true},
			{api.Entry{Cur: 2, Prev: 3, Gen: 5, Tick: 9}, true},
			{api.Entry{Cur: -1, Prev: -1, Gen: 1<<31 - 1}, true},
		} {
			c := someClient(6, uint64(bucket))
			c.Table.Rows[bucket] = was
			want := c
			want.Table.Version = 8
			if x.newer {
				want.Table.Rows[bucket] = x.e
			}
			s := api.Sheet{Base: 6, To: 8, Rows: []api.Row{{Bucket: bucket, Entry: x.e}}}
			got, yes, e := Take(c, s)
			check(t, "a row", got, want, yes, true, e, api.OK)
		}
	}
}

// Of a table that is none yet all rows are nobody's, of Gen 0: a row of Gen 0
// is not newer than that.
func TestTakeFirst(t *testing.T) { // P12.2
	s := someSheet(-1, 0, 0, 1)
	for i := range s.Rows {
		s.Rows[i].Entry = api.Entry{Cur: i % 6, Prev: -1, Gen: i % 2, Tick: i}
	}
	got, yes, e := Take(New(), s)
	want := api.Client{Has: true, Table: table.New()}
	for i := 1; i < 16; i += 2 {
		want.Table.Rows[i] = s.Rows[i].Entry
	}
	check(t, "the first one", got, want, yes, true, e, api.OK)
}

func TestTakeNoRows(t *testing.T) { // P12.2
	c := someClient(3, 5)
	want := c
	want.Table.Version = 9
	for _, rows := range [][]api.Row{nil, {}} {
		got, yes, e := Take(c, api.Sheet{Base: 2, To: 9, Rows: rows})
		check(t, "no rows", got, want, yes, true, e, api.OK)
	}
}

// A snapshot, too, changes just rows that are older.
func TestTakeSnapshot(t *testing.T) { // P12.2
	for seed := range uint64(50) {
		c, s := someClient(3, seed), someSheet(-1, 4, 0, seed+1000)
		got, yes, e := Take(c, s)
		want, _, _ := taken(c, s)
		check(t, "a snapshot", got, want, yes, true, e, api.OK)
	}
}

func TestTakeAll(t *testing.T) { // P12.2
	for _, c := range rightClients() {
		for _, s := range rightSheets() {
			got, yes, e := Take(c, s)
			want, wantYes, wantE := taken(c, s)
			check(t, "Take", got, want, yes, wantYes, e, wantE)
			if !Right(got) || yes != (Has(got) > Has(c)) {
				t.Errorf("%v of %v: may it be? %v; %v", got, c, Right(got), yes)
			}
		}
	}
}

func TestTakeWrong(t *testing.T) { // P12.2
	for _, c := range append(rightClients(), wrongClients()...) {
		for _, s := range wrongSheets() {
			got, yes, e := Take(c, s)
			check(t, "a wrong sheet", got, c, yes, false, e, api.ErrArg)
		}
	}
	for _, c := range wrongClients() {
		for _, s := range rightSheets() {
			got, yes, e := Take(c, s)
			check(t, "a wrong client", got, c, yes, false, e, api.ErrArg)
		}
	}
}

// What may not be goes ahead of the gap.
func TestTakeOrder(t *testing.T) { // P12.2
	gap := someSheet(8, 9, 3, 1)
	wrong := someSheet(8, 9, 3, 1)
	wrong.Rows[1].Bucket = 0
	old := someSheet(1, 2, 3, 1)
	old.Rows[0].Entry = api.Entry{}
	for i, x := range []struct {
		c api.Client
		s api.Sheet
		e api.Errno
	}{
		{someClient(3, 1), gap, api.ErrGap},
		{New(), gap, api.ErrGap},
		{someClient(3, 1), wrong, api.ErrArg},
		{New(), wrong, api.ErrArg},
		{api.Client{Table: table.New()}, gap, api.ErrArg},
		{api.Client{Has: true}, gap, api.ErrArg},
		{someClient(-1, 1), gap, api.ErrArg},
		{someClient(5, 1), old, api.ErrArg},
	} {
		if got, yes, e := Take(x.c, x.s); got != x.c || yes || e != x.e {
			t.Errorf("%d: %v %v %v, want %v", i, got, yes, e, x.e)
		}
	}
}

func TestBytes(t *testing.T) { // P12.2
	for _, c := range append(rightClients(), wrongClients()[:24]...) {
		for _, s := range rightSheets() {
			b, _ := sheet.Put(s)
			got, yes, e := Bytes(c, b)
			want, wantYes, wantE := Take(c, s)
			check(t, "Bytes", got, want, yes, wantYes, e, wantE)
		}
	}
}

// Bytes that are no sheet's have sheet.Take's error, whatever the client is.
func TestBytesWrong(t *testing.T) { // P12.2
	b, _ := sheet.Put(someSheet(3, 9, 0x0810, 4))
	for _, c := range append(rightClients(), wrongClients()[:24]...) {
		for n := range b {
			got, yes, e := Bytes(c, b[:n])
			check(t, "too few", got, c, yes, false, e, api.ErrShort)
		}
		got, yes, e := Bytes(c, nil)
		check(t, "nil", got, c, yes, false, e, api.ErrShort)
		got, yes, e = Bytes(c, append(slices.Clone(b), 0))
		check(t, "too many", got, c, yes, false, e, api.ErrForm)
		for at, x := range map[int]byte{0: 1, 5: 10, 6: 2, 12: 3, 13: 16, 14: 9, 26: 4} {
			d := slices.Clone(b)
			d[at] = x
			_, want := sheet.Take(d)
			got, yes, e = Bytes(c, d)
			check(t, "others", got, c, yes, false, e, want)
			if want == api.OK {
				t.Errorf("%d: these are a sheet's", at)
			}
		}
	}
}

func TestBytesAny(t *testing.T) { // P12.2
	for seed := range uint64(3000) {
		next := numbers(seed)
		b, _ := sheet.Put(someSheet(next(4)-1, 4+next(3), next(1<<16), seed))
		for range next(3) {
			b[next(len(b))] = byte(next(256))
		}
		b = b[:len(b)-next(2)*next(5)]
		c := someClient(next(8), seed)
		s, want := sheet.Take(b)
		then, wantYes := c, false
		if want == api.OK {
			then, wantYes, want = taken(c, s)
		}
		got, yes, e := Bytes(c, b)
		check(t, "any bytes", got, then, yes, wantYes, e, want)
	}
}

// story is a table that goes on by table.Set: all that it ever was, by Version.
func story(n int, seed uint64) []api.Table {
	next := numbers(seed)
	l := []api.Table{table.New()}
	for len(l) <= n {
		now := l[len(l)-1]
		bucket := next(16)
		e := someEntry(next, 3)
		e.Gen += now.Rows[bucket].Gen + 1
		now, err := table.Set(now, bucket, e)
		if err != api.OK {
			panic("a story ends")
		}
		l = append(l, now)
	}
	return l
}

// sheetOf is a snapshot, or a delta, of a story: from is -1, or a Version.
func sheetOf(l []api.Table, from, to int) api.Sheet {
	if from < 0 {
		s, _ := sheet.Of(l[to])
		return s
	}
	s, _ := sheet.Delta(l[from], l[to])
	return s
}

// Sheets come in any order, some twice, some never: the client has the table of
// its Version at any time, and Versions do not fall.
func TestGoesOn(t *testing.T) { // P12.3
	gaps, later := 0, 0
	for seed := range uint64(200) {
		next := numbers(seed)
		l := story(40, seed)
		c := New()
		for range 60 {
			to := next(41)
			s := sheetOf(l, next(to+1)-1, to)
			got, yes, e := Take(c, s)
			if e == api.ErrGap {
				gaps++
			}
			if yes {
				later++
			}
			if e != api.OK && e != api.ErrGap || Has(got) < Has(c) {
				t.Fatalf("%d: %v, of Version %d behind %d", seed, e, Has(got), Has(c))
			}
			if Has(got) >= 0 && (got != api.Client{Has: true, Table: l[Has(got)]}) {
				t.Fatalf("%d: %v is not the table of Version %d", seed, got, Has(got))
			}
			if e == api.OK && Has(got) != max(Has(c), to) {
				t.Fatalf("%d: Version %d behind %d and %d", seed, Has(got), Has(c), to)
			}
			again, yes, twice := Take(got, s)
			check(t, "twice", again, got, yes, false, twice, e)
			c = got
		}
	}
	if gaps == 0 || later == 0 {
		t.Error("no story has any", gaps, later)
	}
}

// All sheets of a short story, in all orders of three of them.
func TestAllOrders(t *testing.T) { // P12.3
	l := story(4, 5)
	var all []api.Sheet
	for to := range l {
		for from := -1; from < to; from++ {
			all = append(all, sheetOf(l, from, to))
		}
	}
	for _, x := range all {
		for _, y := range all {
			for _, z := range all {
				c := New()
				for _, s := range []api.Sheet{x, y, z} {
					was := Has(c)
					c, _, _ = Take(c, s)
					if Has(c) < was || Has(c) >= 0 && c.Table != l[Has(c)] {
						t.Fatal(c, x, y, z)
					}
				}
			}
		}
	}
}

// Whoever has lost all but the last snapshot has what one who took all has.
func TestNever(t *testing.T) { // P12.3
	l := story(30, 9)
	all := New()
	for to := 1; to < len(l); to++ {
		all, _, _ = Take(all, sheetOf(l, -1, to-1))
		all, _, _ = Take(all, sheetOf(l, to-1, to))
	}
	last, yes, e := Take(New(), sheetOf(l, -1, 30))
	check(t, "the last one", last, all, yes, true, e, api.OK)
	if last.Table != l[30] {
		t.Error(last)
	}
}

// What is handed in stays as it was, spare room included, and is not kept.
func TestOwnMemory(t *testing.T) { // R3, R4
	s := someSheet(2, 6, 0xffff, 3)
	s.Rows = s.Rows[:5]
	was := slices.Clone(s.Rows[:16])
	c := someClient(4, 1)
	first, _, _ := Take(c, s)
	if !slices.Equal(was, s.Rows[:16]) || c != someClient(4, 1) {
		t.Error("what was handed in is changed")
	}
	second, _, _ := Take(c, s)
	for i := range s.Rows[:16] {
		s.Rows[:16][i] = api.Row{}
	}
	if first != second {
		t.Error("the same does not answer the same")
	}
	if e, _ := Row(first, 3); e != entry.Merge(c.Table.Rows[3], was[3].Entry) {
		t.Error("what was handed in is kept")
	}
}

func TestOwnBytes(t *testing.T) { // R3, R4
	c := someClient(4, 1)
	b, _ := sheet.Put(someSheet(2, 6, 0xffff, 3))
	b = b[:len(b):len(b)]
	room := append(slices.Clone(b), 1, 2, 3)
	was := slices.Clone(room)
	first, _, e := Bytes(c, room[:len(b)])
	if !bytes.Equal(room, was) || e != api.OK {
		t.Error("what was handed in is changed", e)
	}
	clear(room)
	second, _, _ := Bytes(c, b)
	if first != second {
		t.Error("what was handed in is kept")
	}
}
