package option

import (
	"bytes"
	"math"
	"slices"
	"testing"

	"handfast/api"
)

// example is the chapter's: the option, its bytes.
var (
	example      = api.Option{Kind: api.KiChained, Bucket: 3, Cur: 1, Prev: -1, Gen: 258, Tick: 5}
	exampleBytes = []byte{158, 16, 2, 3, 1, 255, 0, 0, 1, 2, 0, 0, 0, 0, 0, 5}
)

// full has another value in each byte of each number.
var (
	full      = api.Option{Kind: 4, Bucket: 11, Cur: 2, Prev: 5, Gen: 0x01234567, Tick: 0x0089abcdef12}
	fullBytes = []byte{158, 16, 4, 11, 2, 5, 0x01, 0x23, 0x45, 0x67, 0x00, 0x89, 0xab, 0xcd, 0xef, 0x12}
)

// least and most have each number at its least, at its most.
var (
	least = api.Option{Kind: 1, Bucket: 0, Cur: -1, Prev: -1, Gen: 0, Tick: 0}
	most  = api.Option{Kind: 5, Bucket: 15, Cur: 5, Prev: 5, Gen: 1<<31 - 1, Tick: 1 << 40}
)

// Numbers about each limit, and about those at which a number is narrowed.
var (
	bytesToTry    = []int{0, 1, 2, 4, 5, 6, 7, 14, 15, 16, 17, 127, 128, 254, 255}
	backendsToTry = []int{-1, 0, 1, 4, 5, 6, 7, -2, -3, 127, 128, 253, 254, 255, 256, 257, -255, -256, -257, 1 << 32, 1<<32 - 1, -1 << 32, math.MinInt, math.MinInt + 5, math.MaxInt}
	gensToTry     = []int{0, 1, 255, 256, 258, 1<<16 - 1, 1 << 16, 1<<24 - 1, 1 << 24, 1<<31 - 2, 1<<31 - 1, 1 << 31, 1<<31 + 1, 1<<32 - 1, 1 << 32, 1<<32 + 1, -1, -2, -1 << 31, math.MinInt, math.MaxInt}
	ticksToTry    = []int{0, 1, 255, 256, 1<<31 - 1, 1 << 31, 1<<32 - 1, 1 << 32, 1<<32 + 7, 1<<40 - 1, 1 << 40, 1<<40 + 1, 1<<48 - 1, 1 << 48, 1<<48 + 1, -1, -2, -1 << 40, math.MinInt, math.MaxInt}
)

// stream gives the same bytes for the same seed, on every run.
func stream(seed uint64, n int) []byte {
	b := make([]byte, n)
	for i := range b {
		seed = seed*6364136223846793005 + 1442695040888963407
		b[i] = byte(seed >> 56)
	}
	return b
}

// mayBe asks by the chapter's words whether o may be, number by number: another
// way than Right's.
func mayBe(o api.Option) bool {
	switch {
	case o.Kind == 0, o.Kind > 5, o.Bucket > 15:
		return false
	case o.Cur < -1, o.Cur > 5, o.Prev < -1, o.Prev > 5:
		return false
	case o.Gen < 0, o.Gen > 2147483647, o.Tick < 0, o.Tick > 1099511627776:
		return false
	}
	return true
}

// slowPut lays out byte by byte an option that may be: another way than Put's.
func slowPut(o api.Option) []byte {
	cur, prev := byte(255), byte(255)
	if o.Cur >= 0 {
		cur = byte(o.Cur)
	}
	if o.Prev >= 0 {
		prev = byte(o.Prev)
	}
	return []byte{
		158, 16, o.Kind, o.Bucket, cur, prev,
		byte(o.Gen / 16777216), byte(o.Gen / 65536), byte(o.Gen / 256), byte(o.Gen),
		byte(o.Tick / 1099511627776), byte(o.Tick / 4294967296), byte(o.Tick / 16777216), byte(o.Tick / 65536), byte(o.Tick / 256), byte(o.Tick),
	}
}

// slowTake reads 16 bytes one by one: another way than Take's. It is not asked
// whether the option may be.
func slowTake(b []byte) api.Option {
	o := api.Option{Kind: b[2], Bucket: b[3], Cur: int(b[4]), Prev: int(b[5])}
	if b[4] == 255 {
		o.Cur = -1
	}
	if b[5] == 255 {
		o.Prev = -1
	}
	o.Gen = int(b[6])*16777216 + int(b[7])*65536 + int(b[8])*256 + int(b[9])
	o.Tick = int(b[10])*1099511627776 + int(b[11])*4294967296 + int(b[12])*16777216 + int(b[13])*65536 + int(b[14])*256 + int(b[15])
	return o
}

// wantOption asks of o that it may be, is put as its bytes, and is taken from
// them, or that it may not be, and nothing is told of it.
func wantOption(t *testing.T, what string, o api.Option, may bool) {
	t.Helper()
	if Right(o) != may {
		t.Errorf("%s: Right(%v) is %v", what, o, !may)
	}
	b, e := Put(o)
	if !may {
		if e != api.ErrArg || len(b) != 0 {
			t.Errorf("%s: Put(%v) = %v, error %d", what, o, b, e)
		}
		return
	}
	if e != api.OK || !bytes.Equal(b, slowPut(o)) {
		t.Errorf("%s: Put(%v) = %v, error %d, not %v", what, o, b, e, slowPut(o))
	}
	if again, e := Take(slowPut(o)); e != api.OK || again != o {
		t.Errorf("%s: Take(%v) = %v, error %d, not %v", what, slowPut(o), again, e, o)
	}
}

// wantError asks that b is taken for no option, for that reason, and that
// nothing is told beside it.
func wantError(t *testing.T, what string, b []byte, want api.Errno) {
	t.Helper()
	if o, e := Take(b); e != want || o != (api.Option{}) {
		t.Errorf("%s: %d bytes, %v: %v, error %d, not %d", what, len(b), b[:min(len(b), 20)], o, e, want)
	}
}

// wantTaken asks of 16 bytes that they are taken just if they are an option's
// that may be, and that what is taken is put as them.
func wantTaken(t *testing.T, what string, b []byte) {
	t.Helper()
	if want := slowTake(b); b[0] == 158 && b[1] == 16 && mayBe(want) {
		if o, e := Take(b); e != api.OK || o != want {
			t.Errorf("%s: Take(%v) = %v, error %d, not %v", what, b, o, e, want)
		}
		if again, e := Put(want); e != api.OK || !bytes.Equal(again, b) {
			t.Errorf("%s: Put(%v) = %v, error %d, not %v", what, want, again, e, b)
		}
		return
	}
	wantError(t, what, b, api.ErrForm)
}

// P6.1: the chapter's example.
func TestExample(t *testing.T) {
	if b, e := Put(example); e != api.OK || !bytes.Equal(b, exampleBytes) {
		t.Errorf("%v, error %d", b, e)
	}
	if o, e := Take(exampleBytes); e != api.OK || o != example {
		t.Errorf("%v, error %d", o, e)
	}
	if !Right(example) {
		t.Error("it may not be")
	}
}

// P6.1: the bytes are 16, each number at its place, the highest byte first.
func TestBytes(t *testing.T) {
	for _, c := range []struct {
		o api.Option
		b []byte
	}{
		{full, fullBytes},
		{least, []byte{158, 16, 1, 0, 255, 255, 0, 0, 0, 0, 0, 0, 0, 0, 0, 0}},
		{most, []byte{158, 16, 5, 15, 5, 5, 0x7f, 0xff, 0xff, 0xff, 1, 0, 0, 0, 0, 0}},
		{api.Option{Kind: 1, Cur: 0, Prev: -1}, []byte{158, 16, 1, 0, 0, 255, 0, 0, 0, 0, 0, 0, 0, 0, 0, 0}},
		{api.Option{Kind: 3, Cur: -1, Prev: 4}, []byte{158, 16, 3, 0, 255, 4, 0, 0, 0, 0, 0, 0, 0, 0, 0, 0}},
		{api.Option{Kind: 1, Tick: 1<<40 - 1}, []byte{158, 16, 1, 0, 0, 0, 0, 0, 0, 0, 0, 255, 255, 255, 255, 255}},
		{api.Option{Kind: 1, Gen: 1, Tick: 1 << 32}, []byte{158, 16, 1, 0, 0, 0, 0, 0, 0, 1, 0, 1, 0, 0, 0, 0}},
	} {
		if b, e := Put(c.o); e != api.OK || !bytes.Equal(b, c.b) {
			t.Errorf("Put(%v) = %v, error %d, not %v", c.o, b, e, c.b)
		}
		if o, e := Take(c.b); e != api.OK || o != c.o {
			t.Errorf("Take(%v) = %v, error %d, not %v", c.b, o, e, c.o)
		}
	}
}

// P6.1: each number at its limits, one below them, one above them, the others
// being right; the zero option, whose kind is none.
func TestLimits(t *testing.T) {
	wantOption(t, "nothing", api.Option{}, false)
	for _, base := range []api.Option{example, full, least, most} {
		wantOption(t, "a right one", base, true)
		for n := range 256 {
			o := base
			o.Kind = uint8(n)
			wantOption(t, "a kind", o, n >= 1 && n <= 5)
			o = base
			o.Bucket = uint8(n)
			wantOption(t, "a bucket", o, n <= 15)
		}
		for _, n := range append(slices.Clone(backendsToTry), gensToTry...) {
			o := base
			o.Cur = n
			wantOption(t, "Cur", o, n >= -1 && n <= 5)
			o = base
			o.Prev = n
			wantOption(t, "Prev", o, n >= -1 && n <= 5)
		}
		for _, n := range append(slices.Clone(gensToTry), ticksToTry...) {
			o := base
			o.Gen = n
			wantOption(t, "Gen", o, n >= 0 && n < 1<<31)
			o = base
			o.Tick = n
			wantOption(t, "Tick", o, n >= 0 && n <= 1<<40)
		}
	}
	if api.MaxGen != 1<<31 || api.MaxTick != 1<<40 || api.MaxBackends != 6 || api.Buckets != 16 || api.KiDirect != 1 || api.Kinds != 6 {
		t.Error("the limits' numbers")
	}
}

// P6.1: all pairs of owners, all kinds with all buckets; several numbers that
// may not be.
func TestAllPairs(t *testing.T) {
	for cur := -3; cur < 260; cur++ {
		for prev := -3; prev < 260; prev++ {
			o := api.Option{Kind: 2, Bucket: 7, Cur: cur, Prev: prev, Gen: 9, Tick: 9}
			wantOption(t, "owners", o, mayBe(o))
		}
	}
	for kind := range 256 {
		for bucket := range 256 {
			o := api.Option{Kind: uint8(kind), Bucket: uint8(bucket), Cur: 1, Prev: 2, Gen: 9, Tick: 9}
			wantOption(t, "a kind and a bucket", o, mayBe(o))
		}
	}
	for _, kind := range bytesToTry {
		for _, cur := range []int{-2, -1, 5, 6} {
			for _, gen := range []int{-1, 0, 1<<31 - 1, 1 << 31} {
				for _, tick := range []int{-1, 0, 1 << 40, 1<<40 + 1} {
					o := api.Option{Kind: uint8(kind), Bucket: 15, Cur: cur, Prev: cur, Gen: gen, Tick: tick}
					wantOption(t, "several numbers", o, mayBe(o))
				}
			}
		}
	}
}

// P6.1 and R1, Take: fewer than 16 bytes are short, whatever they are; more are
// none's; nil and empty are the same.
func TestTakeLengths(t *testing.T) {
	wantError(t, "nil", nil, api.ErrShort)
	wantError(t, "empty", []byte{}, api.ErrShort)
	for n := range 16 {
		wantError(t, "an option's beginning", exampleBytes[:n], api.ErrShort)
		wantError(t, "an option's end", exampleBytes[16-n:], api.ErrShort)
		wantError(t, "zeros", make([]byte, n), api.ErrShort)
		wantError(t, "ones", bytes.Repeat([]byte{255}, n), api.ErrShort)
	}
	wantError(t, "zeros", make([]byte, 16), api.ErrForm)
	wantError(t, "ones", bytes.Repeat([]byte{255}, 16), api.ErrForm)
	for _, more := range []int{1, 2, 4, 16, 240, 256, 65519, 65520, 65536, 300000} {
		wantError(t, "more", append(slices.Clone(exampleBytes), make([]byte, more)...), api.ErrForm)
		wantError(t, "more", append(slices.Clone(fullBytes), stream(uint64(more), more)...), api.ErrForm)
		wantError(t, "more ahead", append(make([]byte, more), fullBytes...), api.ErrForm)
		wantError(t, "more zeros", make([]byte, 16+more), api.ErrForm)
	}
	wantError(t, "two", append(slices.Clone(exampleBytes), exampleBytes...), api.ErrForm)
	long := append(slices.Clone(exampleBytes), 0)
	long[1] = 17
	wantError(t, "17 that tell so", long, api.ErrForm)
	if api.ErrForm != 60 || api.ErrShort != 61 || api.ErrArg != 2 {
		t.Error("the errors' numbers")
	}
}

// P6.1, Take: each of the 16 bytes being any other one: the first two ones of
// their own alone, of each number those within its limits, 255 for nobody, and
// no other byte for it.
func TestTakeEachByte(t *testing.T) {
	for _, base := range [][]byte{exampleBytes, fullBytes, slowPut(least), slowPut(most)} {
		for at := range base {
			for v := range 256 {
				b := slices.Clone(base)
				b[at] = byte(v)
				wantTaken(t, "one byte", b)
			}
		}
		for first := range 256 {
			for second := range 256 {
				b := slices.Clone(base)
				b[0], b[1] = byte(first), byte(second)
				wantTaken(t, "the first two", b)
			}
		}
	}
}

// P6.1, Take: Cur and Prev by hand.
func TestTakeNobody(t *testing.T) {
	for v := range 256 {
		cur, prev := slices.Clone(exampleBytes), slices.Clone(exampleBytes)
		cur[4], prev[5] = byte(v), byte(v)
		switch {
		case v <= 5 || v == 255:
			n := v
			if v == 255 {
				n = -1
			}
			if o, e := Take(cur); e != api.OK || o.Cur != n || o.Prev != -1 {
				t.Errorf("Cur %d: %v, error %d", v, o, e)
			}
			if o, e := Take(prev); e != api.OK || o.Prev != n || o.Cur != 1 {
				t.Errorf("Prev %d: %v, error %d", v, o, e)
			}
		default:
			wantError(t, "Cur", cur, api.ErrForm)
			wantError(t, "Prev", prev, api.ErrForm)
		}
	}
	for _, at := range []int{2, 3} {
		b := slices.Clone(exampleBytes)
		b[at] = 255
		wantError(t, "a kind's, or a bucket's byte 255", b, api.ErrForm)
	}
}

// P6.1, Take: Gen and Tick about their limits, as bytes.
func TestTakeLongNumbers(t *testing.T) {
	for _, c := range []struct {
		at   int
		b    []byte
		want int
	}{
		{6, []byte{0x7f, 0xff, 0xff, 0xff}, 1<<31 - 1},
		{6, []byte{0x80, 0, 0, 0}, -1},
		{6, []byte{0xff, 0xff, 0xff, 0xff}, -1},
		{6, []byte{0, 0, 0, 255}, 255},
		{10, []byte{0, 255, 255, 255, 255, 255}, 1<<40 - 1},
		{10, []byte{1, 0, 0, 0, 0, 0}, 1 << 40},
		{10, []byte{1, 0, 0, 0, 0, 1}, -1},
		{10, []byte{1, 1, 0, 0, 0, 0}, -1},
		{10, []byte{2, 0, 0, 0, 0, 0}, -1},
		{10, []byte{128, 0, 0, 0, 0, 0}, -1},
		{10, []byte{255, 255, 255, 255, 255, 255}, -1},
		{10, []byte{0, 0, 0, 0, 0, 255}, 255},
	} {
		b := slices.Clone(exampleBytes)
		copy(b[c.at:], c.b)
		if c.want < 0 {
			wantError(t, "too great a number", b, api.ErrForm)
			continue
		}
		want := example
		if c.at == 6 {
			want.Gen = c.want
		} else {
			want.Tick = c.want
		}
		if o, e := Take(b); e != api.OK || o != want {
			t.Errorf("%v: %v, error %d, not %v", b, o, e, want)
		}
	}
}

// wantOf asks that Of tells the option of these, if it may be, else nothing.
func wantOf(t *testing.T, kind uint8, bucket int, e api.Entry) {
	t.Helper()
	want, err := api.Option{}, api.ErrArg
	if bucket >= 0 && bucket <= 15 {
		o := api.Option{Kind: kind, Bucket: uint8(bucket), Cur: e.Cur, Prev: e.Prev, Gen: e.Gen, Tick: e.Tick}
		if mayBe(o) {
			want, err = o, api.OK
		}
	}
	if o, got := Of(kind, bucket, e); o != want || got != err {
		t.Errorf("Of(%d, %d, %v) = %v, error %d, not %v, error %d", kind, bucket, e, o, got, want, err)
	}
}

// P6.2, Of: the entry's numbers, each at its own place; of each number those
// that may be alone, buckets that look right once they are narrowed as well.
func TestOf(t *testing.T) {
	o, e := Of(api.KiBounce, 11, api.Entry{Cur: 2, Prev: 5, Gen: 0x01234567, Tick: 0x0089abcdef12})
	if e != api.OK || o != full {
		t.Errorf("%v, error %d", o, e)
	}
	if o, e = Of(api.KiChained, 3, api.Entry{Cur: 1, Prev: -1, Gen: 258, Tick: 5}); e != api.OK || o != example {
		t.Errorf("%v, error %d", o, e)
	}
	if o, e = Of(0, 0, api.Entry{}); e != api.ErrArg || o != (api.Option{}) {
		t.Errorf("%v, error %d", o, e)
	}
	for _, base := range []api.Option{example, full, least, most} {
		entry := api.Entry{Cur: base.Cur, Prev: base.Prev, Gen: base.Gen, Tick: base.Tick}
		for kind := range 256 {
			wantOf(t, uint8(kind), int(base.Bucket), entry)
		}
		for bucket := -600; bucket < 600; bucket++ {
			wantOf(t, base.Kind, bucket, entry)
		}
		for _, bucket := range append(slices.Clone(gensToTry), ticksToTry...) {
			wantOf(t, base.Kind, bucket, entry)
		}
		for _, n := range append(slices.Clone(backendsToTry), append(slices.Clone(gensToTry), ticksToTry...)...) {
			for _, turn := range []func(e *api.Entry){
				func(e *api.Entry) { e.Cur = n },
				func(e *api.Entry) { e.Prev = n },
				func(e *api.Entry) { e.Gen = n },
				func(e *api.Entry) { e.Tick = n },
				func(e *api.Entry) { *e = api.Entry{Cur: n, Prev: n, Gen: n, Tick: n} },
			} {
				other := entry
				turn(&other)
				wantOf(t, base.Kind, int(base.Bucket), other)
			}
		}
	}
}

// wantTurned asks that Turned tells o with these, if it may be, else nothing.
func wantTurned(t *testing.T, o api.Option, kind uint8, gen int) {
	t.Helper()
	want, err := api.Option{}, api.ErrArg
	turned := api.Option{Kind: kind, Bucket: o.Bucket, Cur: o.Cur, Prev: o.Prev, Gen: gen, Tick: o.Tick}
	if mayBe(turned) {
		want, err = turned, api.OK
	}
	if got, e := Turned(o, kind, gen); got != want || e != err {
		t.Errorf("Turned(%v, %d, %d) = %v, error %d, not %v, error %d", o, kind, gen, got, e, want, err)
	}
}

// P6.2, Turned: the other numbers stay; it tells whether what comes of it may
// be, whatever kind and Gen o had.
func TestTurned(t *testing.T) {
	want := full
	want.Kind, want.Gen = api.KiHandoff, 7
	if o, e := Turned(full, api.KiHandoff, 7); e != api.OK || o != want {
		t.Errorf("%v, error %d", o, e)
	}
	wild := api.Option{Kind: 200, Bucket: 3, Cur: 1, Prev: -1, Gen: -9, Tick: 5}
	if o, e := Turned(wild, api.KiChained, 258); e != api.OK || o != example {
		t.Errorf("%v, error %d", o, e)
	}
	for _, base := range []api.Option{{}, example, full, least, most, wild} {
		for kind := range 256 {
			wantTurned(t, base, uint8(kind), 3)
		}
		for _, gen := range append(slices.Clone(gensToTry), ticksToTry...) {
			wantTurned(t, base, api.KiProbe, gen)
			wantTurned(t, base, 0, gen)
		}
		for _, n := range append(slices.Clone(backendsToTry), append(slices.Clone(gensToTry), ticksToTry...)...) {
			for _, turn := range []func(o *api.Option){
				func(o *api.Option) { o.Bucket = uint8(n) },
				func(o *api.Option) { o.Cur = n },
				func(o *api.Option) { o.Prev = n },
				func(o *api.Option) { o.Tick = n },
				func(o *api.Option) { o.Gen = n },
			} {
				other := base
				turn(&other)
				wantTurned(t, other, api.KiDirect, 1<<31-1)
			}
		}
	}
}

// P6.3: what is put is taken.
func TestPutIsTaken(t *testing.T) {
	for seed := range 20000 {
		s := stream(uint64(seed), 16)
		o := slowTake(s)
		o.Kind, o.Bucket = o.Kind%5+1, o.Bucket%16
		o.Cur, o.Prev = int(s[4])%7-1, int(s[5])%7-1
		o.Gen &= 1<<31 - 1
		o.Tick &= 1<<40 - 1
		wantOption(t, "many", o, true)
		if b, _ := Put(o); len(b) != 16 {
			t.Errorf("%v: %d bytes", o, len(b))
		}
	}
}

// P6.3: what is taken has just those bytes: of whatever bytes, those that are
// taken are those that are put.
func TestTakenHasItsBytes(t *testing.T) {
	taken := 0
	for seed := range 200000 {
		b := stream(uint64(seed), 16)
		b[0], b[1] = 158, 16
		b[2], b[3] = b[2]%8, b[3]%20
		b[4], b[5] = b[4]%9-2, b[5]%9-2
		b[10] %= 3
		wantTaken(t, "many", b)
		if _, e := Take(b); e == api.OK {
			taken++
		}
	}
	if taken < 1000 || taken > 190000 {
		t.Errorf("%d were taken", taken)
	}
	for seed := range 20000 {
		wantTaken(t, "any bytes", stream(uint64(seed), 16))
	}
}

// P6.1 and R4: bytes lie in memory of their own; what is handed in stays, and
// what lies behind it stays and isn't read.
func TestMemory(t *testing.T) {
	first, e := Put(full)
	second, f := Put(full)
	if e != api.OK || f != api.OK {
		t.Fatalf("errors %d, %d", e, f)
	}
	clear(first[:cap(first)])
	if !bytes.Equal(second, fullBytes) {
		t.Error("two answers share memory")
	}
	if third, _ := Put(full); !bytes.Equal(third, fullBytes) {
		t.Error("a later answer shares memory with an earlier one")
	}
	room := append(slices.Clone(fullBytes), stream(1, 30)...)
	was := slices.Clone(room)
	for n := range len(room) + 1 {
		Take(room[:n])
	}
	o, e := Take(room[:16])
	if e != api.OK || o != full {
		t.Errorf("spare room was read: %v, error %d", o, e)
	}
	wantError(t, "15 with one behind them", room[:15], api.ErrShort)
	if !bytes.Equal(room, was) {
		t.Error("what was handed in has changed")
	}
}

// R3: the same arguments, the same answers, whatever was called between.
func TestSameAnswers(t *testing.T) {
	for range 5 {
		wantOption(t, "again", example, true)
		wantOption(t, "again", api.Option{}, false)
		wantError(t, "again", nil, api.ErrShort)
		wantError(t, "again", make([]byte, 17), api.ErrForm)
		wantOf(t, 9, 3, api.Entry{})
		wantOf(t, 1, 3, api.Entry{})
		wantTurned(t, full, 9, -1)
		wantTurned(t, full, 2, 1)
	}
}
