package tuple

import (
	"bytes"
	"net/netip"
	"slices"
	"testing"

	"handfast/api"
)

// The chapter's example: the tuple, its bytes, its text.
var (
	example      = api.Tuple{Src: 0x0a000001, Dst: 0x0a000002, SrcPort: 80, DstPort: 258}
	exampleBytes = []byte{10, 0, 0, 1, 10, 0, 0, 2, 0, 80, 1, 2}
)

const exampleText = "10.0.0.1:80>10.0.0.2:258"

// full has another value in each byte of each field.
var (
	full      = api.Tuple{Src: 0x01234567, Dst: 0x89abcdef, SrcPort: 0x1357, DstPort: 0x9bdf}
	fullBytes = []byte{0x01, 0x23, 0x45, 0x67, 0x89, 0xab, 0xcd, 0xef, 0x13, 0x57, 0x9b, 0xdf}
)

// greatest has the greatest value in each field.
var greatest = api.Tuple{Src: 0xffffffff, Dst: 0xffffffff, SrcPort: 0xffff, DstPort: 0xffff}

// addrs and ports are those at which an order by signed numbers, by low bytes
// first, or by a part of them, would differ.
var (
	addrs = []uint32{0, 1, 0xff, 0x100, 0x01000000, 0x7fffffff, 0x80000000, 0xff000000, 0xffffffff}
	ports = []uint16{0, 1, 0xff, 0x100, 0x7fff, 0x8000, 0xffff}
)

// stream gives the same bytes for the same seed, on every run.
func stream(seed uint64, n int) []byte {
	b := make([]byte, n)
	for i := range b {
		seed = seed*6364136223846793005 + 1442695040888963407
		b[i] = byte(seed >> 56)
	}
	return b
}

// put lays a tuple's fields out byte by byte: another way than Bytes's.
func put(t api.Tuple) [12]byte {
	return [12]byte{
		byte(t.Src >> 24), byte(t.Src >> 16), byte(t.Src >> 8), byte(t.Src),
		byte(t.Dst >> 24), byte(t.Dst >> 16), byte(t.Dst >> 8), byte(t.Dst),
		byte(t.SrcPort >> 8), byte(t.SrcPort), byte(t.DstPort >> 8), byte(t.DstPort),
	}
}

// taken reads a tuple's fields byte by byte: another way than Take's.
func taken(b []byte) api.Tuple {
	return api.Tuple{
		Src:     uint32(b[0])<<24 | uint32(b[1])<<16 | uint32(b[2])<<8 | uint32(b[3]),
		Dst:     uint32(b[4])<<24 | uint32(b[5])<<16 | uint32(b[6])<<8 | uint32(b[7]),
		SrcPort: uint16(b[8])<<8 | uint16(b[9]),
		DstPort: uint16(b[10])<<8 | uint16(b[11]),
	}
}

// slowCmp orders by the chapter's words, field by field: another way than
// Cmp's.
func slowCmp(a, b api.Tuple) int {
	switch {
	case a.Src < b.Src:
		return -1
	case a.Src > b.Src:
		return 1
	case a.Dst < b.Dst:
		return -1
	case a.Dst > b.Dst:
		return 1
	case a.SrcPort < b.SrcPort:
		return -1
	case a.SrcPort > b.SrcPort:
		return 1
	case a.DstPort < b.DstPort:
		return -1
	case a.DstPort > b.DstPort:
		return 1
	}
	return 0
}

// someTuples are n tuples, many of which differ in a late field alone, or not
// at all, where few is small.
func someTuples(seed uint64, n int, few byte) []api.Tuple {
	l := make([]api.Tuple, n)
	b := stream(seed, n*4)
	for i := range l {
		l[i] = api.Tuple{
			Src: uint32(b[i*4] % few), Dst: uint32(b[i*4+1]%few) << 24,
			SrcPort: uint16(b[i*4+2]%few) << 8, DstPort: uint16(b[i*4+3] % few),
		}
	}
	return l
}

// edgeTuples are all tuples of few edge values in each field.
func edgeTuples() []api.Tuple {
	var l []api.Tuple
	for _, src := range []uint32{0, 1, 0x80000000, 0xffffffff} {
		for _, dst := range []uint32{0, 0xff, 0x100, 0xffffffff} {
			for _, srcPort := range []uint16{0, 0xff, 0x100, 0xffff} {
				for _, dstPort := range []uint16{0, 1, 0x8000, 0xffff} {
					l = append(l, api.Tuple{Src: src, Dst: dst, SrcPort: srcPort, DstPort: dstPort})
				}
			}
		}
	}
	return l
}

// P4.1, P4.3: the chapter's example.
func TestExample(t *testing.T) {
	if b := Bytes(example); !bytes.Equal(b, exampleBytes) {
		t.Errorf("Bytes: %v", b)
	}
	if x, e := Take(exampleBytes); x != example || e != api.OK {
		t.Errorf("Take: %v, %d", x, e)
	}
	if s := Text(example); s != exampleText {
		t.Errorf("Text: %q", s)
	}
}

// P4.1, Bytes: 12 of them, each field at its place, the highest byte first.
func TestBytes(t *testing.T) {
	for i, c := range []struct {
		x api.Tuple
		b []byte
	}{
		{api.Tuple{}, make([]byte, 12)},
		{full, fullBytes},
		{greatest, bytes.Repeat([]byte{0xff}, 12)},
		{api.Tuple{Src: 0x01020304}, []byte{1, 2, 3, 4, 0, 0, 0, 0, 0, 0, 0, 0}},
		{api.Tuple{Dst: 0x01020304}, []byte{0, 0, 0, 0, 1, 2, 3, 4, 0, 0, 0, 0}},
		{api.Tuple{SrcPort: 0x0102}, []byte{0, 0, 0, 0, 0, 0, 0, 0, 1, 2, 0, 0}},
		{api.Tuple{DstPort: 0x0102}, []byte{0, 0, 0, 0, 0, 0, 0, 0, 0, 0, 1, 2}},
	} {
		if b := Bytes(c.x); !bytes.Equal(b, c.b) {
			t.Errorf("%d: Bytes(%v) = %v, not %v", i, c.x, b, c.b)
		}
		if x, e := Take(c.b); x != c.x || e != api.OK {
			t.Errorf("%d: Take(%v) = %v, %d", i, c.b, x, e)
		}
	}
}

// P4.1, Take: whatever 12 bytes there are, they are a tuple's, each bit told at
// its place.
func TestTake(t *testing.T) {
	for bit := range 96 {
		b := make([]byte, 12)
		b[bit/8] = 1 << (bit % 8)
		if x, e := Take(b); e != api.OK || x != taken(b) {
			t.Errorf("bit %d: %v, %d", bit, x, e)
		}
	}
	for seed := range 2000 {
		b := stream(uint64(seed), 12)
		if x, e := Take(b); e != api.OK || x != taken(b) {
			t.Errorf("Take(%v) = %v, %d, not %v", b, x, e, taken(b))
		}
	}
}

// P4.1 and R1, Take: fewer bytes are short, more are of another form, and
// nothing is told beside it; nil and empty are the same.
func TestTakeLengths(t *testing.T) {
	lengths := []int{255, 256, 256 + 12, 65535, 65536, 65536 + 12, 300000}
	for n := range 40 {
		lengths = append(lengths, n)
	}
	for _, n := range lengths {
		want := api.OK
		if n < 12 {
			want = api.ErrShort
		}
		if n > 12 {
			want = api.ErrForm
		}
		for _, b := range [][]byte{stream(uint64(n), n), make([]byte, n), bytes.Repeat([]byte{0xff}, n)} {
			x, e := Take(b)
			if e != want {
				t.Errorf("%d bytes: error %d, not %d", n, e, want)
			}
			if e != api.OK && x != (api.Tuple{}) {
				t.Errorf("%d bytes: %v beside an error", n, x)
			}
		}
	}
	if x, e := Take(nil); x != (api.Tuple{}) || e != api.ErrShort {
		t.Errorf("nil: %v, %d", x, e)
	}
	if api.ErrForm != 60 || api.ErrShort != 61 {
		t.Error("the errors' numbers")
	}
}

// P4.1 and R4, Take: spare room behind the bytes isn't read, and what is handed
// in stays as it is.
func TestTakeRoom(t *testing.T) {
	room := append(slices.Clone(fullBytes), 0xaa, 0xbb)
	was := slices.Clone(room)
	if x, e := Take(room[:12]); x != full || e != api.OK {
		t.Errorf("%v, %d", x, e)
	}
	if x, e := Take(room[:11]); x != (api.Tuple{}) || e != api.ErrShort {
		t.Errorf("11 of 14: %v, %d", x, e)
	}
	Take(room)
	if !bytes.Equal(room, was) {
		t.Errorf("what was handed in has changed: %v", room)
	}
}

// P4.1 and R4, Bytes: they lie in memory of their own.
func TestBytesOwnMemory(t *testing.T) {
	first, second := Bytes(full), Bytes(full)
	clear(first[:cap(first)])
	if !bytes.Equal(second, fullBytes) || !bytes.Equal(Bytes(full), fullBytes) {
		t.Error("two answers share memory")
	}
}

// wantOrder asks of a and b that they stand to each other as want says, by Cmp
// and by Less, both ways.
func wantOrder(t *testing.T, a, b api.Tuple, want int) {
	t.Helper()
	if n := Cmp(a, b); n != want {
		t.Errorf("Cmp(%v, %v) = %d, not %d", a, b, n, want)
	}
	if n := Cmp(b, a); n != -want {
		t.Errorf("Cmp(%v, %v) = %d, not %d", b, a, n, -want)
	}
	if is := Less(a, b); is != (want < 0) {
		t.Errorf("Less(%v, %v) = %v", a, b, is)
	}
	if is := Less(b, a); is != (want > 0) {
		t.Errorf("Less(%v, %v) = %v", b, a, is)
	}
}

// P4.2, Cmp and Less: tuples that differ in one field alone, each of the four,
// by all pairs of edge values.
func TestOrderByOneField(t *testing.T) {
	for _, base := range []api.Tuple{{}, full, greatest} {
		for i, low := range addrs {
			for _, high := range addrs[i+1:] {
				a, b := base, base
				a.Src, b.Src = low, high
				wantOrder(t, a, b, -1)
				a, b = base, base
				a.Dst, b.Dst = low, high
				wantOrder(t, a, b, -1)
			}
		}
		for i, low := range ports {
			for _, high := range ports[i+1:] {
				a, b := base, base
				a.SrcPort, b.SrcPort = low, high
				wantOrder(t, a, b, -1)
				a, b = base, base
				a.DstPort, b.DstPort = low, high
				wantOrder(t, a, b, -1)
			}
		}
	}
}

// P4.2, Cmp and Less: the first field that differs tells, whatever all those
// behind it say.
func TestOrderByFirstField(t *testing.T) {
	for i, c := range [][2]api.Tuple{
		{{Src: 1, Dst: 0xffffffff, SrcPort: 0xffff, DstPort: 0xffff}, {Src: 2}},
		{{Src: 1, Dst: 9}, {Src: 2, Dst: 8}},
		{{Src: 1, SrcPort: 9}, {Src: 2, SrcPort: 8}},
		{{Src: 1, DstPort: 9}, {Src: 2, DstPort: 8}},
		{{Dst: 1, SrcPort: 0xffff, DstPort: 0xffff}, {Dst: 2}},
		{{Dst: 1, SrcPort: 9}, {Dst: 2, SrcPort: 8}},
		{{Dst: 1, DstPort: 9}, {Dst: 2, DstPort: 8}},
		{{SrcPort: 1, DstPort: 0xffff}, {SrcPort: 2}},
		{{Src: 5, Dst: 1, SrcPort: 9, DstPort: 9}, {Src: 5, Dst: 2, SrcPort: 1, DstPort: 1}},
		{{Src: 5, Dst: 5, SrcPort: 1, DstPort: 9}, {Src: 5, Dst: 5, SrcPort: 2, DstPort: 1}},
		{{Src: 0x00ffffff, Dst: 1}, {Src: 0x01000000}},
		{{Dst: 1}, {Src: 1}},
		{{SrcPort: 1}, {Dst: 1}},
		{{DstPort: 1}, {SrcPort: 1}},
	} {
		wantOrder(t, c[0], c[1], -1)
		if t.Failed() {
			t.Fatalf("pair %d", i)
		}
	}
}

// P4.2, Cmp and Less: neither of two that are the same stands ahead; nor of two
// whose ports are the same both ways, but for their addresses.
func TestOrderOfSame(t *testing.T) {
	for _, x := range edgeTuples() {
		wantOrder(t, x, x, 0)
	}
	a := api.Tuple{Src: 1, Dst: 2, SrcPort: 7, DstPort: 7}
	wantOrder(t, a, Back(a), -1)
	a.Dst = 1
	wantOrder(t, a, Back(a), 0)
}

// P4.2: of all pairs of many the order is that of the chapter's words.
func TestOrderOfMany(t *testing.T) {
	l := edgeTuples()
	for _, a := range l {
		for _, b := range l {
			if Cmp(a, b) != slowCmp(a, b) || Less(a, b) != (slowCmp(a, b) < 0) {
				t.Fatalf("%v, %v: %d, %v", a, b, Cmp(a, b), Less(a, b))
			}
		}
	}
}

// wantSorted asks that Sorted tells l in order, neither fewer nor more, and
// leaves l as it is.
func wantSorted(t *testing.T, what string, l []api.Tuple) {
	t.Helper()
	was := slices.Clone(l)
	s := Sorted(l...)
	if !slices.Equal(l, was) {
		t.Errorf("%s: what was handed in has changed", what)
	}
	slices.SortFunc(was, slowCmp)
	if !slices.Equal(s, was) {
		t.Errorf("%s: %d tuples sorted to %d: %v", what, len(l), len(s), s[:min(len(s), 20)])
	}
}

// P4.2 and R1, Sorted: none and one.
func TestSortedFew(t *testing.T) {
	if s := Sorted(); len(s) != 0 {
		t.Errorf("nothing: %v", s)
	}
	if s := Sorted(nil...); len(s) != 0 {
		t.Errorf("nil: %v", s)
	}
	if s := Sorted([]api.Tuple{}...); len(s) != 0 {
		t.Errorf("empty: %v", s)
	}
	for _, x := range []api.Tuple{{}, example, full, greatest} {
		if s := Sorted(x); !slices.Equal(s, []api.Tuple{x}) {
			t.Errorf("one: %v", s)
		}
		if s := Sorted(x, x); !slices.Equal(s, []api.Tuple{x, x}) {
			t.Errorf("the same one twice: %v", s)
		}
		y := Back(x)
		wantSorted(t, "both ways", []api.Tuple{x, y, x})
		wantSorted(t, "both ways", []api.Tuple{y, x, y})
	}
}

// P4.2, Sorted: in whatever order they come, those that are the same as often
// as they are there.
func TestSorted(t *testing.T) {
	a, b, c := api.Tuple{DstPort: 1}, api.Tuple{SrcPort: 1}, api.Tuple{Src: 1}
	if s := Sorted(c, a, b, a, c, a); !slices.Equal(s, []api.Tuple{a, a, a, b, c, c}) {
		t.Errorf("six of three: %v", s)
	}
	l := edgeTuples()
	wantSorted(t, "in order", l)
	slices.Reverse(l)
	wantSorted(t, "backwards", l)
	wantSorted(t, "each twice", append(slices.Clone(l), l...))
	wantSorted(t, "all the same", slices.Repeat([]api.Tuple{full}, 500))
	for n := range 70 {
		wantSorted(t, "many the same", someTuples(uint64(n), n, 2))
		wantSorted(t, "few the same", someTuples(uint64(n), n, 200))
	}
	wantSorted(t, "a long list", someTuples(5, 100000, 7))
	wantSorted(t, "a long list", someTuples(6, 100000, 255))
}

// P4.2 and R4, Sorted: what is told lies in memory of its own, and what is
// handed in stays as it is, spare room behind it included.
func TestSortedOwnMemory(t *testing.T) {
	for n := range 20 {
		room := someTuples(uint64(n)+9, n+3, 100)
		was := slices.Clone(room)
		l := room[:n]
		first, second := Sorted(l...), Sorted(l...)
		want := slices.Clone(second)
		_ = append(first, full)
		clear(first[:cap(first)])
		if !slices.Equal(second, want) || !slices.Equal(Sorted(l...), want) {
			t.Errorf("%d: two answers share memory", n)
		}
		if !slices.Equal(room, was) {
			t.Errorf("%d: what was handed in has changed", n)
		}
		clear(room)
		if !slices.Equal(second, want) {
			t.Errorf("%d: an answer shares memory with what was handed in", n)
		}
	}
}

// P4.3, Back: addresses and ports change places, each with its own kind.
func TestBack(t *testing.T) {
	for i, c := range [][2]api.Tuple{
		{{}, {}},
		{{Src: 1}, {Dst: 1}},
		{{Dst: 1}, {Src: 1}},
		{{SrcPort: 1}, {DstPort: 1}},
		{{DstPort: 1}, {SrcPort: 1}},
		{example, {Src: 0x0a000002, Dst: 0x0a000001, SrcPort: 258, DstPort: 80}},
		{full, {Src: 0x89abcdef, Dst: 0x01234567, SrcPort: 0x9bdf, DstPort: 0x1357}},
		{greatest, greatest},
		{{Src: 1, Dst: 2, SrcPort: 7, DstPort: 7}, {Src: 2, Dst: 1, SrcPort: 7, DstPort: 7}},
		{{Src: 3, Dst: 3, SrcPort: 1, DstPort: 2}, {Src: 3, Dst: 3, SrcPort: 2, DstPort: 1}},
		{{Src: 0xffffffff, DstPort: 0xffff}, {Dst: 0xffffffff, SrcPort: 0xffff}},
	} {
		if x := Back(c[0]); x != c[1] {
			t.Errorf("%d: Back(%v) = %v, not %v", i, c[0], x, c[1])
		}
	}
}

// P4.3, Text: numbers without a leading 0, the least and the greatest ones, no
// blanks.
func TestText(t *testing.T) {
	for i, c := range []struct {
		x api.Tuple
		s string
	}{
		{api.Tuple{}, "0.0.0.0:0>0.0.0.0:0"},
		{greatest, "255.255.255.255:65535>255.255.255.255:65535"},
		{full, "1.35.69.103:4951>137.171.205.239:39903"},
		{api.Tuple{Src: 0xffffffff, SrcPort: 65535}, "255.255.255.255:65535>0.0.0.0:0"},
		{api.Tuple{Dst: 0xffffffff, DstPort: 65535}, "0.0.0.0:0>255.255.255.255:65535"},
		{api.Tuple{Src: 0xff000000, Dst: 0xff, SrcPort: 256, DstPort: 255}, "255.0.0.0:256>0.0.0.255:255"},
		{api.Tuple{Src: 0x00ff0064, Dst: 0x0a090163, SrcPort: 9, DstPort: 10000}, "0.255.0.100:9>10.9.1.99:10000"},
		{api.Tuple{Src: 0x01010101, Dst: 0x01010101, SrcPort: 7, DstPort: 7}, "1.1.1.1:7>1.1.1.1:7"},
	} {
		if s := Text(c.x); s != c.s {
			t.Errorf("%d: %q, not %q", i, s, c.s)
		}
	}
}

// textOf is t's text by the library's own form of an address and a port.
func textOf(t api.Tuple) string {
	b := put(t)
	src := netip.AddrPortFrom(netip.AddrFrom4([4]byte(b[0:4])), t.SrcPort)
	dst := netip.AddrPortFrom(netip.AddrFrom4([4]byte(b[4:8])), t.DstPort)
	return src.String() + ">" + dst.String()
}

// P4.3, Text: of many, and of each value of a byte, and of each port.
func TestTextOfMany(t *testing.T) {
	l := edgeTuples()
	for seed := range 500 {
		l = append(l, taken(stream(uint64(seed), 12)))
	}
	for v := range uint32(256) {
		l = append(l, api.Tuple{Src: v<<24 | v<<16 | v<<8 | v, Dst: v << 16})
	}
	for v := range 65536 {
		l = append(l, api.Tuple{SrcPort: uint16(v), DstPort: uint16(65535 - v)})
	}
	for _, x := range l {
		if s := Text(x); s != textOf(x) {
			t.Fatalf("%v: %q, not %q", x, s, textOf(x))
		}
	}
}

// P4.4: tuples are the same just if their bytes are, and are ordered as these.
func TestOrderedAsBytes(t *testing.T) {
	l := append(edgeTuples(), someTuples(3, 100, 3)...)
	for seed := range 50 {
		l = append(l, taken(stream(uint64(seed), 12)))
	}
	for _, a := range l {
		for _, b := range l {
			x, y := Bytes(a), Bytes(b)
			if bytes.Equal(x, y) != (a == b) || bytes.Compare(x, y) != Cmp(a, b) || (bytes.Compare(x, y) < 0) != Less(a, b) {
				t.Fatalf("%v, %v: bytes %v, %v, order %d", a, b, x, y, Cmp(a, b))
			}
		}
	}
}

// P4.4: one bit turned in a tuple's bytes is another tuple, ordered by it.
func TestBitTurned(t *testing.T) {
	for _, x := range []api.Tuple{{}, example, full, greatest} {
		for bit := range 96 {
			b := Bytes(x)
			b[bit/8] ^= 1 << (bit % 8)
			y, e := Take(b)
			want := -1
			if b[bit/8]&(1<<(bit%8)) == 0 {
				want = 1
			}
			if y == x || e != api.OK {
				t.Fatalf("bit %d of %v: %v, %d", bit, x, y, e)
			}
			wantOrder(t, x, y, want)
		}
	}
}

// P4.1 and P4.4: what is told as bytes is taken, and what is taken has just
// those bytes.
func TestBytesAreTaken(t *testing.T) {
	for _, x := range append(edgeTuples(), someTuples(8, 200, 255)...) {
		want := put(x)
		b := Bytes(x)
		if !bytes.Equal(b, want[:]) {
			t.Fatalf("%v: %v, not %v", x, b, want)
		}
		if y, e := Take(b); y != x || e != api.OK {
			t.Fatalf("%v: taken as %v, %d", x, y, e)
		}
	}
	for seed := range 500 {
		b := stream(uint64(seed)+77, 12)
		if x, _ := Take(b); !bytes.Equal(Bytes(x), b) {
			t.Fatalf("%v: %v", b, Bytes(x))
		}
	}
}

// P4.4: Back of Back is the tuple.
func TestBackOfBack(t *testing.T) {
	for _, x := range append(edgeTuples(), example, full) {
		if Back(Back(x)) != x {
			t.Fatalf("%v: %v", x, Back(Back(x)))
		}
	}
}

// R3: the same arguments, the same answers, whatever was called between.
func TestSameAnswers(t *testing.T) {
	for range 3 {
		if !bytes.Equal(Bytes(full), fullBytes) || Text(example) != exampleText || Cmp(example, full) != 1 {
			t.Error("another answer")
		}
		Take(nil)
		Sorted(greatest, api.Tuple{})
		Back(full)
	}
}
