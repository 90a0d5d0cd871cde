package hash

import (
	"bytes"
	"runtime"
	"slices"
	"sync"
	"sync/atomic"
	"testing"

	"handfast/api"
)

// tuples are some, with their sums and buckets, worked out apart from the
// program.
var tuples = []struct {
	x      api.Tuple
	sum    uint8
	bucket int
}{
	{api.Tuple{}, 0x44, 0},
	{api.Tuple{Src: 0x0a000001, Dst: 0x0a000002, SrcPort: 80, DstPort: 258}, 0x28, 10},
	{api.Tuple{Src: 0x0a000002, Dst: 0x0a000001, SrcPort: 258, DstPort: 80}, 0x70, 7},
	{api.Tuple{Src: 0x01234567, Dst: 0x89abcdef, SrcPort: 0x1357, DstPort: 0x9bdf}, 0xc6, 10},
	{api.Tuple{Src: 0xffffffff, Dst: 0xffffffff, SrcPort: 0xffff, DstPort: 0xffff}, 0xfe, 1},
	{api.Tuple{Src: 1}, 0xad, 7},
	{api.Tuple{Dst: 1}, 0x33, 0},
	{api.Tuple{SrcPort: 1}, 0xf6, 9},
	{api.Tuple{DstPort: 1}, 0xd9, 4},
	{api.Tuple{Src: 0x01000000}, 0x8e, 6},
	{api.Tuple{Dst: 0x01000000}, 0xc5, 9},
	{api.Tuple{SrcPort: 0x0100}, 0x27, 5},
	{api.Tuple{DstPort: 0x0100}, 0x18, 9},
	{api.Tuple{Src: 0x01020304}, 0x5f, 10},
	{api.Tuple{Dst: 0x01020304}, 0x60, 6},
	{api.Tuple{SrcPort: 0x0102}, 0x10, 1},
	{api.Tuple{DstPort: 0x0102}, 0xfc, 3},
}

// turned are some bytes with their turns, worked out apart from the program.
var turned = [][2]uint8{
	{0, 208}, {1, 75}, {2, 181}, {3, 32}, {15, 109}, {16, 215}, {17, 66},
	{127, 110}, {128, 216}, {129, 67}, {240, 217}, {254, 251}, {255, 102},
}

// stream gives the same bytes for the same seed, on every run.
func stream(seed uint64, n int) []byte {
	b := make([]byte, n)
	for i := range b {
		seed = seed*6364136223846793005 + 1442695040888963407
		b[i] = byte(seed >> 56)
	}
	return b
}

// slowTurn is the turn of c by the chapter's words, with numbers that do not
// wrap round: another way than Turn's.
func slowTurn(c uint8) uint8 {
	n := (167*int(c) + 13) % 256
	return uint8(n%16*16 + n/16)
}

// slowGo is the state behind b: another way than Go's.
func slowGo(s uint8, b []byte) uint8 {
	for i := range b {
		s = slowTurn(s ^ b[i])
	}
	return s
}

// bytesOf lays out the bytes of x: another way than package tuple's.
func bytesOf(x api.Tuple) [12]byte {
	return [12]byte{
		byte(x.Src >> 24), byte(x.Src >> 16), byte(x.Src >> 8), byte(x.Src),
		byte(x.Dst >> 24), byte(x.Dst >> 16), byte(x.Dst >> 8), byte(x.Dst),
		byte(x.SrcPort >> 8), byte(x.SrcPort), byte(x.DstPort >> 8), byte(x.DstPort),
	}
}

// tupleOf has the bytes b.
func tupleOf(b [12]byte) api.Tuple {
	return api.Tuple{
		Src:     uint32(b[0])<<24 | uint32(b[1])<<16 | uint32(b[2])<<8 | uint32(b[3]),
		Dst:     uint32(b[4])<<24 | uint32(b[5])<<16 | uint32(b[6])<<8 | uint32(b[7]),
		SrcPort: uint16(b[8])<<8 | uint16(b[9]),
		DstPort: uint16(b[10])<<8 | uint16(b[11]),
	}
}

// slowSum is the sum of x: another way than Sum's.
func slowSum(x api.Tuple) uint8 {
	b := bytesOf(x)
	return slowGo(0, b[:])
}

// slowOf is the bucket of x: another way than Of's.
func slowOf(x api.Tuple) int {
	s := int(slowSum(x))
	return s/16 ^ s%16
}

// someTuples are n tuples, whatever their bytes are.
func someTuples(seed uint64, n int) []api.Tuple {
	l := make([]api.Tuple, n)
	b := stream(seed, n*12)
	for i := range l {
		l[i] = tupleOf([12]byte(b[i*12:]))
	}
	return l
}

// slowAll are the buckets of l: another way than All's.
func slowAll(l []api.Tuple) []int {
	buckets := make([]int, len(l))
	for i, x := range l {
		buckets[i] = slowOf(x)
	}
	return buckets
}

// P8.1: the chapter's examples.
func TestExample(t *testing.T) {
	if Turn(0) != 208 || Turn(1) != 75 {
		t.Errorf("Turn: %d, %d", Turn(0), Turn(1))
	}
	if s := Go(0, 1); s != 75 {
		t.Errorf("behind 1: %d", s)
	}
	if s := Go(0, 1, 0); s != 175 {
		t.Errorf("behind 1, 0: %d", s)
	}
}

// P8.1, Turn: of every byte.
func TestTurn(t *testing.T) {
	for _, c := range turned {
		if n := Turn(c[0]); n != c[1] {
			t.Errorf("Turn(%d) = %d, not %d", c[0], n, c[1])
		}
	}
	for c := range 256 {
		if n := Turn(uint8(c)); n != slowTurn(uint8(c)) {
			t.Errorf("Turn(%d) = %d, not %d", c, n, slowTurn(uint8(c)))
		}
	}
}

// P8.1, Unturn: of every byte, from its turn back and the other way about.
func TestUnturn(t *testing.T) {
	for _, c := range turned {
		if n := Unturn(c[1]); n != c[0] {
			t.Errorf("Unturn(%d) = %d, not %d", c[1], n, c[0])
		}
	}
	for c := range 256 {
		if n := Unturn(slowTurn(uint8(c))); n != uint8(c) {
			t.Errorf("Unturn(%d) = %d, not %d", slowTurn(uint8(c)), n, c)
		}
		if n := Turn(Unturn(uint8(c))); n != uint8(c) {
			t.Errorf("the turn of Unturn(%d) is %d", c, n)
		}
	}
}

// P8.4: no two bytes have the same turn, nor the same byte that they are the
// turn of.
func TestTurnsUnlike(t *testing.T) {
	turns, unturns := map[uint8]int{}, map[uint8]int{}
	for c := range 256 {
		turns[Turn(uint8(c))]++
		unturns[Unturn(uint8(c))]++
	}
	if len(turns) != 256 || len(unturns) != 256 {
		t.Errorf("%d turns, %d bytes of turns", len(turns), len(unturns))
	}
}

// P8.1 and R1, Go: behind no bytes, nil and empty, the state is what it was.
func TestGoNothing(t *testing.T) {
	for s := range 256 {
		if Go(uint8(s)) != uint8(s) || Go(uint8(s), nil...) != uint8(s) || Go(uint8(s), []byte{}...) != uint8(s) {
			t.Errorf("from %d: %d", s, Go(uint8(s)))
		}
	}
}

// P8.1, Go: behind one byte, from every state by every byte.
func TestGoOne(t *testing.T) {
	for s := range 256 {
		for c := range 256 {
			if n := Go(uint8(s), byte(c)); n != slowTurn(uint8(s)^uint8(c)) {
				t.Fatalf("Go(%d, %d) = %d", s, c, n)
			}
		}
	}
}

// P8.1, Go: behind many bytes, the first one first, in one call or in two.
func TestGoMany(t *testing.T) {
	for n := range 80 {
		b := stream(uint64(n), n)
		for _, s := range []uint8{0, 1, 15, 16, 127, 128, 255} {
			want := slowGo(s, b)
			if got := Go(s, b...); got != want {
				t.Errorf("%d bytes from %d: %d, not %d", n, s, got, want)
			}
			for k := range n + 1 {
				if got := Go(Go(s, b[:k]...), b[k:]...); got != want {
					t.Errorf("%d bytes from %d in two at %d: %d, not %d", n, s, k, got, want)
				}
			}
		}
	}
	long := stream(9, 1<<20+3)
	if got, want := Go(7, long...), slowGo(7, long); got != want {
		t.Errorf("a long list: %d, not %d", got, want)
	}
	if Go(0, 1, 2) == Go(0, 2, 1) {
		t.Error("the order of the bytes counts for nothing")
	}
}

// P8.1, R3 and R4, Go: what is handed in stays as it is, what lies behind it is
// not read, and the same is answered again.
func TestGoLeaves(t *testing.T) {
	room := stream(3, 40)
	was := slices.Clone(room)
	first := Go(5, room[:12]...)
	room[12]++
	second := Go(5, room[:12]...)
	room[12]--
	if first != second || first != slowGo(5, was[:12]) {
		t.Errorf("%d, then %d", first, second)
	}
	if !bytes.Equal(room, was) {
		t.Error("what was handed in has changed")
	}
}

// P8.4: by the same bytes, from any two states that are not the same, states
// are reached that are not the same.
func TestGoUnlike(t *testing.T) {
	for n := range 40 {
		b := stream(uint64(n)+100, n)
		behind := map[uint8]int{}
		for s := range 256 {
			behind[Go(uint8(s), b...)]++
		}
		if len(behind) != 256 {
			t.Errorf("%d bytes: %d states", n, len(behind))
		}
	}
}

// P8.2, Sum and Of: tuples worked out apart from the program, each field at its
// place.
func TestSumAndOf(t *testing.T) {
	for _, c := range tuples {
		if s := Sum(c.x); s != c.sum {
			t.Errorf("Sum(%v) = %#x, not %#x", c.x, s, c.sum)
		}
		if n := Of(c.x); n != c.bucket {
			t.Errorf("Of(%v) = %d, not %d", c.x, n, c.bucket)
		}
	}
}

// P8.2, Sum and Of: each bit of a tuple by itself, and many tuples.
func TestSumAndOfMany(t *testing.T) {
	l := someTuples(1, 5000)
	for bit := range 96 {
		var b [12]byte
		b[bit/8] = 1 << (bit % 8)
		l = append(l, tupleOf(b))
	}
	for _, x := range l {
		if s := Sum(x); s != slowSum(x) {
			t.Errorf("Sum(%v) = %#x, not %#x", x, s, slowSum(x))
		}
		if n := Of(x); n != slowOf(x) {
			t.Errorf("Of(%v) = %d, not %d", x, n, slowOf(x))
		}
	}
}

// P8.2, Of: by one byte all buckets are reached, and each as often.
func TestOfAllBuckets(t *testing.T) {
	var often [api.Buckets]int
	for port := range 256 {
		n := Of(api.Tuple{Src: 7, Dst: 8, SrcPort: 9, DstPort: uint16(port)})
		if n < 0 || n >= api.Buckets {
			t.Fatalf("port %d: bucket %d", port, n)
		}
		often[n]++
	}
	for n, k := range often {
		if k != 16 {
			t.Errorf("bucket %d: %d of 256", n, k)
		}
	}
}

// P8.2, Same: of all pairs of many, those of one bucket, and no others; unlike
// sums may be of one bucket.
func TestSame(t *testing.T) {
	l := someTuples(2, 120)
	for _, c := range tuples {
		l = append(l, c.x)
	}
	var same, unlike int
	for _, a := range l {
		for _, b := range l {
			want := slowOf(a) == slowOf(b)
			if is := Same(a, b); is != want {
				t.Fatalf("Same(%v, %v) = %v", a, b, is)
			}
			if !want {
				unlike++
			} else if slowSum(a) != slowSum(b) {
				same++
			}
		}
		if !Same(a, a) {
			t.Errorf("Same(%v, itself)", a)
		}
	}
	if same == 0 || unlike == 0 {
		t.Errorf("%d pairs of one bucket with unlike sums, %d of two", same, unlike)
	}
}

// P8.4: tuples that differ in one byte, whichever it is, have unlike sums.
func TestOneByteUnlike(t *testing.T) {
	l := someTuples(3, 20)
	for _, c := range tuples {
		l = append(l, c.x)
	}
	for _, x := range l {
		for at := range 12 {
			sums := map[uint8]int{}
			b := bytesOf(x)
			for c := range 256 {
				b[at] = byte(c)
				sums[Sum(tupleOf(b))]++
			}
			if len(sums) != 256 {
				t.Errorf("%v, byte %d: %d sums", x, at, len(sums))
			}
		}
	}
}

// wantMade asks of h that it has made its table n times.
func wantMade(t *testing.T, h *Hasher, n int) {
	t.Helper()
	if m := h.Made(); m != n {
		t.Errorf("made %d times, not %d", m, n)
	}
}

// P8.3: a hasher makes its table when Of asks first, and not again.
func TestHasherOf(t *testing.T) {
	h := New()
	if h == nil {
		t.Fatal("no hasher")
	}
	wantMade(t, h, 0)
	wantMade(t, h, 0)
	for _, c := range tuples {
		if n := h.Of(c.x); n != c.bucket {
			t.Errorf("Of(%v) = %d, not %d", c.x, n, c.bucket)
		}
		wantMade(t, h, 1)
	}
	for _, x := range someTuples(4, 5000) {
		if n := h.Of(x); n != slowOf(x) {
			t.Errorf("Of(%v) = %d, not %d", x, n, slowOf(x))
		}
	}
	wantMade(t, h, 1)
}

// P8.3: the table is all turns, once it is asked for, and not before.
func TestHasherTable(t *testing.T) {
	h := New()
	if h.turns != [256]uint8{} {
		t.Error("a table ahead of who asks")
	}
	h.Of(api.Tuple{})
	for c, n := range h.turns {
		if n != slowTurn(uint8(c)) {
			t.Errorf("the turn of %d: %d", c, n)
		}
	}
}

// P8.3 and R1, All of no tuples: it tells none, and does not ask.
func TestHasherAllNothing(t *testing.T) {
	h := New()
	for range 3 {
		if l := h.All(); len(l) != 0 {
			t.Errorf("nothing: %v", l)
		}
		if l := h.All(nil...); len(l) != 0 {
			t.Errorf("nil: %v", l)
		}
		if l := h.All([]api.Tuple{}...); len(l) != 0 {
			t.Errorf("empty: %v", l)
		}
		wantMade(t, h, 0)
	}
	h.Of(api.Tuple{})
	if l := h.All(); len(l) != 0 {
		t.Errorf("nothing, once it is made: %v", l)
	}
	wantMade(t, h, 1)
}

// P8.3, All: each one's bucket, in order, as often as it is there; the first
// call that has a tuple asks.
func TestHasherAll(t *testing.T) {
	lists := [][]api.Tuple{{{}}, {{Src: 1}}, {{Src: 1}, {Src: 1}}, {{Src: 1}, {}, {Src: 1}, {DstPort: 1}}}
	for n := range 40 {
		lists = append(lists, someTuples(uint64(n)+50, n+1))
	}
	lists = append(lists, slices.Repeat([]api.Tuple{{SrcPort: 1}}, 300), someTuples(5, 100000))
	used := New()
	for _, l := range lists {
		was, want := slices.Clone(l), slowAll(l)
		h := New()
		for range 2 {
			if got := h.All(l...); !slices.Equal(got, want) {
				t.Errorf("%d tuples: not their buckets, %d of them", len(l), len(got))
			}
			wantMade(t, h, 1)
		}
		if got := used.All(l...); !slices.Equal(got, want) {
			t.Errorf("%d tuples, of one that was asked: not their buckets", len(l))
		}
		if !slices.Equal(l, was) {
			t.Error("what was handed in has changed")
		}
	}
	wantMade(t, used, 1)
}

// P8.3 and R4, All: each answer lies in memory of its own, spare room included.
func TestHasherAllOwnMemory(t *testing.T) {
	h := New()
	l := someTuples(6, 50)
	want := slowAll(l)
	first, second := h.All(l...), h.All(l...)
	for i := range first[:cap(first)] {
		first[:cap(first)][i] = -1
	}
	clear(l)
	if !slices.Equal(second, want) {
		t.Error("an answer has changed")
	}
	if !slices.Equal(h.All(someTuples(6, 50)...), want) {
		t.Error("a later answer is another one")
	}
}

// P8.3 and R3: of two hashers the one does not tell what the other was asked,
// and both tell the same buckets.
func TestHashersApart(t *testing.T) {
	a, b := New(), New()
	a.Of(api.Tuple{})
	wantMade(t, a, 1)
	wantMade(t, b, 0)
	b.All(api.Tuple{}, api.Tuple{Src: 1})
	wantMade(t, a, 1)
	wantMade(t, b, 1)
	wantMade(t, New(), 0)
	for _, x := range someTuples(7, 200) {
		if a.Of(x) != Of(x) || b.Of(x) != Of(x) {
			t.Errorf("%v: %d, %d, %d", x, a.Of(x), b.Of(x), Of(x))
		}
	}
}

// P8.3 and R1: a hasher that New did not make is one like any other; nil tells
// nothing, whatever it is asked.
func TestHasherOfNothing(t *testing.T) {
	var zero Hasher
	wantMade(t, &zero, 0)
	if n := zero.Of(tuples[1].x); n != tuples[1].bucket {
		t.Errorf("the zero value: %d", n)
	}
	wantMade(t, &zero, 1)
	var none *Hasher
	for _, c := range tuples {
		if n := none.Of(c.x); n != 0 {
			t.Errorf("nil: Of(%v) = %d", c.x, n)
		}
		if l := none.All(c.x, c.x); len(l) != 0 {
			t.Errorf("nil: All = %v", l)
		}
		wantMade(t, none, 0)
	}
	if l := none.All(); len(l) != 0 {
		t.Errorf("nil: All() = %v", l)
	}
}

// atOnce has n at work, none of them ahead of all the others, and waits for
// them. They look out for their beginning as they go on, as those that sleep
// wake one by one.
func atOnce(n int, work func(i int)) {
	var ready, over sync.WaitGroup
	var begin atomic.Bool
	for i := range n {
		ready.Add(1)
		over.Go(func() {
			ready.Done()
			for !begin.Load() {
				runtime.Gosched()
			}
			work(i)
		})
	}
	ready.Wait()
	begin.Store(true)
	over.Wait()
}

// P8.3: many ask first at once, some by Of, some by All: each is told right,
// and the table is made once; who was answered sees that it is made.
func TestHasherManyAtOnce(t *testing.T) {
	const many = 24
	l := someTuples(8, many)
	want := slowAll(l)
	for range 8000 {
		h := New()
		var got, made [many]int
		var some [many][]int
		atOnce(many, func(i int) {
			if i%2 == 0 {
				got[i] = h.Of(l[i])
			} else {
				some[i] = h.All(l[i], l[0], l[i])
			}
			made[i] = h.Made()
		})
		for i := range many {
			if i%2 == 0 && got[i] != want[i] {
				t.Fatalf("Of: %d, not %d", got[i], want[i])
			}
			if i%2 == 1 && !slices.Equal(some[i], []int{want[i], want[0], want[i]}) {
				t.Fatalf("All: %v", some[i])
			}
			if made[i] != 1 {
				t.Fatalf("behind an answer it was made %d times", made[i])
			}
		}
		wantMade(t, h, 1)
	}
}

// P8.3: Made may be asked while others ask first, and All of no tuples too:
// never more than 1 is told, and not by that is the table made.
func TestHasherMadeAtOnce(t *testing.T) {
	for range 500 {
		h := New()
		var made [12]int
		atOnce(len(made), func(i int) {
			if i%3 == 0 {
				h.Of(api.Tuple{Src: uint32(i)})
			}
			h.All()
			made[i] = h.Made()
		})
		for i, n := range made {
			if n != 1 && (n != 0 || i%3 == 0) {
				t.Fatalf("made %d times", n)
			}
		}
		quiet := New()
		atOnce(len(made), func(i int) {
			quiet.All()
			made[i] = quiet.Made()
		})
		if quiet.Made() != 0 || slices.Max(made[:]) != 0 {
			t.Fatalf("made, though nobody asked: %v", made)
		}
	}
}

// P8.3: many ask one hasher for long lists at once.
func TestHasherLongAtOnce(t *testing.T) {
	h := New()
	l := someTuples(9, 3000)
	want := slowAll(l)
	var got [8][]int
	atOnce(len(got), func(i int) { got[i] = h.All(l...) })
	for i := range got {
		if !slices.Equal(got[i], want) {
			t.Errorf("%d: not their buckets", i)
		}
		clear(got[i])
	}
	wantMade(t, h, 1)
}
