package tcp

import (
	"bytes"
	"math"
	"slices"
	"testing"

	"handfast/api"
	"handfast/sum"
)

const (
	from = 0x0a000001
	to   = 0x0a000002
)

// full is a head with another value in each field, options, and data of an odd
// number of bytes.
func full() api.Tcp {
	return api.Tcp{Src: 0x1122, Dst: 0x3344, Flags: 0xd5, Head: 28, Data: []byte{0xa1, 0xb2, 0xc3}}
}

// fullBytes are full's between from and to. By hand: the words of the
// pseudo-head add up to 1428, those of all else but the check to 219ed; that is
// 22e15, carried round 2e17, whose complement is d1e8.
func fullBytes() []byte {
	return []byte{
		0x11, 0x22, 0x33, 0x44, 0, 0, 0, 0, 0, 0, 0, 0,
		0x70, 0xd5, 0, 0, 0xd1, 0xe8, 0, 0,
		0, 0, 0, 0, 0, 0, 0, 0,
		0xa1, 0xb2, 0xc3,
	}
}

// stream gives the same bytes for the same seed, on every run.
func stream(seed uint64, n int) []byte {
	b := make([]byte, n)
	for i := range b {
		seed = seed*6364136223846793005 + 1442695040888963407
		b[i] = byte(seed >> 56)
	}
	return b
}

// headWith is one that may be, of that many bytes of head and data, and the
// addresses that it goes between.
func headWith(seed uint64, head, data int) (src, dst uint32, t api.Tcp) {
	s := stream(seed, 13)
	src = uint32(s[0])<<24 | uint32(s[1])<<16 | uint32(s[2])<<8 | uint32(s[3])
	dst = uint32(s[4])<<24 | uint32(s[5])<<16 | uint32(s[6])<<8 | uint32(s[7])
	return src, dst, api.Tcp{
		Src: uint16(s[8])<<8 | uint16(s[9]), Dst: uint16(s[10])<<8 | uint16(s[11]),
		Flags: s[12], Head: head, Data: stream(seed+1, data),
	}
}

// slowCheck is the check of a segment, its own two bytes left out: another way
// than package sum's.
func slowCheck(src, dst uint32, b []byte) uint16 {
	total := int(src) + int(dst) + 6 + len(b)
	for i, v := range b {
		if i == 16 || i == 17 {
			continue
		}
		if i%2 == 0 {
			total += int(v) * 256
		} else {
			total += int(v)
		}
	}
	// 65536 is 1 modulo 65535: what is carried round is the same; 0 stands for
	// ffff, as the pseudo-head's 6 is not 0.
	if total %= 65535; total == 0 {
		total = 65535
	}
	return uint16(65535 - total)
}

// mend lays the right check into b, which has room for one.
func mend(src, dst uint32, b []byte) {
	check := slowCheck(src, dst, b)
	b[16], b[17] = byte(check>>8), byte(check)
}

// mended is n bytes, the length in fours told, all else from seed, the check
// the right one.
func mended(seed uint64, n, fours int) []byte {
	b := stream(seed, n)
	b[12] = byte(fours<<4) | b[12]&15
	mend(from, to, b)
	return b
}

// put is Put of what may be.
func put(t *testing.T, src, dst uint32, h api.Tcp) []byte {
	t.Helper()
	b, ok := Put(src, dst, h)
	if !ok {
		t.Fatalf("it may be, and isn't put: head %d, %d bytes of data", h.Head, len(h.Data))
	}
	return b
}

// wantDrop asks that b is no segment, for that reason, and that nothing is told
// beside it.
func wantDrop(t *testing.T, what string, src, dst uint32, b []byte, want uint8) {
	t.Helper()
	h, drop := Parse(src, dst, b)
	if drop != want {
		t.Errorf("%s: %d bytes: reason %d, not %d", what, len(b), drop, want)
	}
	if h.Src != 0 || h.Dst != 0 || h.Flags != 0 || h.Head != 0 || len(h.Data) != 0 {
		t.Errorf("%s: a head is told beside reason %d: %v", what, drop, h)
	}
}

// wantHead asks that b is a segment of that head.
func wantHead(t *testing.T, what string, src, dst uint32, b []byte, want api.Tcp) {
	t.Helper()
	h, drop := Parse(src, dst, b)
	if drop != api.DrNone {
		t.Errorf("%s: %d bytes: reason %d", what, len(b), drop)
		return
	}
	if h.Src != want.Src || h.Dst != want.Dst || h.Flags != want.Flags || h.Head != want.Head || !bytes.Equal(h.Data, want.Data) {
		t.Errorf("%s: %d bytes: %v, not %v", what, len(b), h, want)
	}
}

// P3.1 and P3.2: the chapter's example, whose check is worked out by hand: all
// words add up to 6857.
func TestExample(t *testing.T) {
	syn := api.Tcp{Src: 1000, Dst: 80, Flags: api.FlSyn, Head: 20}
	want := []byte{3, 0xe8, 0, 80, 0, 0, 0, 0, 0, 0, 0, 0, 0x50, 2, 0, 0, 0x97, 0xa8, 0, 0}
	b, ok := Put(from, to, syn)
	if !ok || !bytes.Equal(b, want) {
		t.Errorf("%x, %v, not %x", b, ok, want)
	}
	wantHead(t, "a SYN", from, to, want, syn)
}

// P3.1: a segment as others send it: a number, an acknowledged one, a window,
// an urgent place, options, and the lower half of the length's byte count for
// the sum alone.
func TestParseOthers(t *testing.T) {
	b := fullBytes()
	for i, v := range []byte{0xde, 0xad, 0xbe, 0xef, 0xca, 0xfe, 0xba, 0xbe} {
		b[4+i] = v
	}
	b[12] = 0x7f
	b[14], b[15], b[18], b[19] = 0xff, 0xfe, 0x12, 0x34
	copy(b[20:], []byte{2, 4, 5, 0xb4, 1, 1, 1, 0})
	mend(from, to, b)
	wantHead(t, "all numbers told", from, to, b, full())
}

// P3.1: ports and flags are where the chapter says, each bit of theirs, and
// nothing else is.
func TestParsePlaces(t *testing.T) {
	base := api.Tcp{Head: 20}
	for at := range 20 {
		for bit := range 8 {
			if at == 12 && bit > 3 || at == 16 || at == 17 {
				continue
			}
			b := make([]byte, 20)
			b[12] = 0x50
			b[at] |= 1 << bit
			mend(from, to, b)
			want := base
			switch at {
			case 0:
				want.Src = 256 << bit
			case 1:
				want.Src = 1 << bit
			case 2:
				want.Dst = 256 << bit
			case 3:
				want.Dst = 1 << bit
			case 13:
				want.Flags = 1 << bit
			}
			wantHead(t, "one bit", from, to, b, want)
		}
	}
}

// P3.1: all flags are told, api's four and the others.
func TestParseFlags(t *testing.T) {
	for flags := range 256 {
		want := full()
		want.Flags = uint8(flags)
		b := fullBytes()
		b[13] = byte(flags)
		mend(from, to, b)
		wantHead(t, "flags", from, to, b, want)
	}
	for _, f := range []struct {
		flag uint8
		bit  int
	}{{api.FlFin, 0}, {api.FlSyn, 1}, {api.FlRst, 2}, {api.FlAck, 4}} {
		b := put(t, from, to, api.Tcp{Flags: f.flag, Head: 20})
		if b[13] != 1<<f.bit {
			t.Errorf("flag %d is bit pattern %b", f.flag, b[13])
		}
	}
}

// P3.1, DrTcp: fewer than 20 bytes, whatever they are, be they a right head's
// or right by their sum.
func TestParseShort(t *testing.T) {
	wantDrop(t, "nil", from, to, nil, api.DrTcp)
	wantDrop(t, "nil, of addresses 0", 0, 0, nil, api.DrTcp)
	wantDrop(t, "empty", from, to, []byte{}, api.DrTcp)
	for n := range 20 {
		wantDrop(t, "the beginning of a head", from, to, fullBytes()[:n], api.DrTcp)
		wantDrop(t, "zeros", 0, 0, make([]byte, n), api.DrTcp)
		wantDrop(t, "ones", 0, 0, bytes.Repeat([]byte{0xff}, n), api.DrTcp)
		b := make([]byte, n)
		if n > 12 {
			b[12] = 0x50
		}
		wantDrop(t, "20 told", from, to, b, api.DrTcp)
		if n > 17 {
			mend(from, to, b)
			if !sum.Right(append(Pseudo(from, to, n), b...)) {
				t.Fatalf("%d bytes aren't mended", n)
			}
			wantDrop(t, "a right sum", from, to, b, api.DrTcp)
		}
	}
	wantHead(t, "20 bytes", from, to, put(t, from, to, api.Tcp{Head: 20}), api.Tcp{Head: 20})
}

// P3.1, DrTcp: 65535 bytes are a segment, one more, or many more, are none,
// though the sum be right; of these the pseudo-head's number has 16 bits alone.
func TestParseLong(t *testing.T) {
	for _, fours := range []int{5, 6, 15} {
		b := mended(uint64(fours), api.MaxPacket, fours)
		h, drop := Parse(from, to, b)
		if drop != api.DrNone || h.Head != fours*4 || !bytes.Equal(h.Data, b[fours*4:]) {
			t.Errorf("65535 bytes, %d told: reason %d, head %d", fours*4, drop, h.Head)
		}
		for _, n := range []int{65536, 65537, 65536 + 19, 65536 + 20, 65536 + 60, 131071, 131072, 131072 + 20, 200000} {
			b := mended(uint64(n), n, fours)
			wantDrop(t, "beyond 65535", from, to, b, api.DrTcp)
			// Taken together with this address the lowest 16 bits are as n is.
			mend(from, to-uint32(n-n%65536), b)
			wantDrop(t, "beyond 65535, the number's 16 bits", from, to, b, api.DrTcp)
			wantDrop(t, "beyond 65535, zeros", 0, 0, make([]byte, n), api.DrTcp)
		}
	}
	b := mended(3, api.MaxPacket, 5)
	b[api.MaxPacket-1] ^= 1
	wantDrop(t, "65535 bytes, a wrong sum", from, to, b, api.DrTcpSum)
}

// P3.1, DrTcp and Head: each length that may be told, at each number of bytes
// about those, the sum right and wrong.
func TestParseLength(t *testing.T) {
	for n := 20; n <= 70; n++ {
		for fours := range 16 {
			b := mended(uint64(n*16+fours), n, fours)
			head := fours * 4
			if head < 20 || head > n {
				wantDrop(t, "a length that may not be", from, to, b, api.DrTcp)
				b[16] ^= 1
				wantDrop(t, "and a wrong sum", from, to, b, api.DrTcp)
				continue
			}
			want := api.Tcp{
				Src: uint16(b[0])<<8 | uint16(b[1]), Dst: uint16(b[2])<<8 | uint16(b[3]),
				Flags: b[13], Head: head, Data: b[head:],
			}
			wantHead(t, "a length that may be", from, to, b, want)
			b[16] ^= 1
			wantDrop(t, "a wrong sum", from, to, b, api.DrTcpSum)
		}
	}
}

// P3.1, DrTcpSum: of all checks just the right one goes; and ffff where that is
// 0, as the sum is asked to be right, no more.
func TestParseSum(t *testing.T) {
	zero := full()
	zero.Src += 0xd1e8
	for i, h := range []api.Tcp{{Head: 20}, full(), zero, {Src: 9, Head: 60, Data: stream(4, 8)}} {
		b := put(t, from, to, h)
		right := slowCheck(from, to, b)
		if i == 2 && right != 0 {
			t.Fatalf("the check is %x, not 0", right)
		}
		for check := range 65536 {
			b[16], b[17] = byte(check>>8), byte(check)
			if check == int(right) || check == 0xffff && right == 0 {
				wantHead(t, "the check", from, to, b, h)
			} else {
				wantDrop(t, "another check", from, to, b, api.DrTcpSum)
			}
		}
	}
}

// P3.1: the sum is of the addresses, of how many bytes there are, and of all
// bytes, a last one that is alone being the higher half of a word.
func TestParseSumOfAll(t *testing.T) {
	for n := 20; n < 64; n++ {
		b := mended(uint64(n), n, 5)
		for bit := range 32 {
			wantDrop(t, "another first address", from^1<<bit, to, b, api.DrTcpSum)
			wantDrop(t, "another second address", from, to^1<<bit, b, api.DrTcpSum)
		}
		wantDrop(t, "no addresses", 0, 0, b, api.DrTcpSum)
		wantDrop(t, "a byte 0 more", from, to, append(slices.Clone(b), 0), api.DrTcpSum)
		odd := append(slices.Clone(b), 7)
		mend(from, to, odd)
		if _, drop := Parse(from, to, odd); drop != api.DrNone {
			t.Errorf("%d bytes: reason %d", n+1, drop)
		}
		if n > 20 {
			b[n-1] = 0
			mend(from, to, b)
			wantDrop(t, "a byte 0 fewer", from, to, b[:n-1], api.DrTcpSum)
		}
	}
}

// P3.2, Put: each field at its place, all else 0, and the check.
func TestPut(t *testing.T) {
	if b, ok := Put(from, to, full()); !ok || !bytes.Equal(b, fullBytes()) {
		t.Errorf("%x, %v, not %x", b, ok, fullBytes())
	}
	wantHead(t, "full", from, to, fullBytes(), full())
	for i, c := range []struct {
		h  api.Tcp
		at int
		b  []byte
	}{
		{api.Tcp{Src: 0xabcd, Head: 20}, 0, []byte{0xab, 0xcd}},
		{api.Tcp{Dst: 0xabcd, Head: 20}, 2, []byte{0xab, 0xcd}},
		{api.Tcp{Flags: 0xff, Head: 20}, 13, []byte{0xff}},
		{api.Tcp{Head: 20}, 12, []byte{0x50}},
		{api.Tcp{Head: 24}, 12, []byte{0x60}},
		{api.Tcp{Head: 60}, 12, []byte{0xf0}},
		{api.Tcp{Head: 20, Data: []byte{5, 6, 7}}, 20, []byte{5, 6, 7}},
		{api.Tcp{Head: 24, Data: []byte{5}}, 24, []byte{5}},
	} {
		want := make([]byte, c.h.Head+len(c.h.Data))
		want[12] = byte(c.h.Head / 4 * 16)
		copy(want[c.at:], c.b)
		mend(from, to, want)
		if b, ok := Put(from, to, c.h); !ok || !bytes.Equal(b, want) {
			t.Errorf("%d: %x, %v, not %x", i, b, ok, want)
		}
	}
}

// P3.2, Put: whatever head and data there are, even and odd, the head's length
// is told, the data lies behind, the sum is right and the check that of all
// else.
func TestPutLengths(t *testing.T) {
	for head := 20; head <= 60; head += 4 {
		for _, data := range []int{0, 1, 2, 3, 255, 256, 1459, 1460, 65535 - head - 1, 65535 - head} {
			src, dst, h := headWith(uint64(head*9+data), head, data)
			b := put(t, src, dst, h)
			if len(b) != head+data || b[12] != byte(head/4*16) {
				t.Fatalf("head %d, %d bytes of data: %d bytes, %x", head, data, len(b), b[12])
			}
			want := make([]byte, head)
			want[0], want[1], want[2], want[3] = byte(h.Src>>8), byte(h.Src), byte(h.Dst>>8), byte(h.Dst)
			want[12], want[13] = byte(head/4*16), h.Flags
			want = append(want, h.Data...)
			mend(src, dst, want)
			if !bytes.Equal(b, want) {
				t.Errorf("head %d, %d bytes of data: not these", head, data)
			}
			if !sum.Right(append(Pseudo(src, dst, len(b)), b...)) {
				t.Errorf("head %d, %d bytes of data: the sum is not right", head, data)
			}
		}
	}
}

// wantNone asks that nothing is put of h.
func wantNone(t *testing.T, h api.Tcp) {
	t.Helper()
	if b, ok := Put(from, to, h); ok || len(b) != 0 {
		t.Errorf("head %d, %d bytes of data: put as %d bytes, %v", h.Head, len(h.Data), len(b), ok)
	}
}

// P3.2, Put: Head is from 20 to 60, in fours, and nothing else.
func TestPutHead(t *testing.T) {
	for head := -300; head <= 300; head++ {
		h := api.Tcp{Src: 1, Dst: 2, Flags: 3, Head: head, Data: []byte{4, 5}}
		if head >= 20 && head <= 60 && head%4 == 0 {
			wantHead(t, "a head that may be", from, to, put(t, from, to, h), h)
		} else {
			wantNone(t, h)
		}
	}
	for _, head := range []int{math.MinInt, math.MinInt + 4, -20, -60, 16, 19, 21, 61, 64, 256 + 20, 65536 + 20, 1<<32 + 20, math.MaxInt - 3, math.MaxInt} {
		wantNone(t, api.Tcp{Head: head})
		wantNone(t, api.Tcp{Head: head, Data: make([]byte, 70000)})
	}
}

// P3.2, Put: all of it may be 65535 bytes, and not one more, whatever the head.
func TestPutLong(t *testing.T) {
	room := make([]byte, 200000)
	for head := 20; head <= 60; head += 4 {
		most := 65535 - head
		for _, n := range []int{most - 1, most, most + 1, most + 2, 65535, 65536, 65536 + head, 131072, 200000} {
			h := api.Tcp{Head: head, Data: room[:n]}
			if n > most {
				wantNone(t, h)
			} else if b := put(t, from, to, h); len(b) != head+n {
				t.Errorf("head %d, %d bytes of data: %d bytes", head, n, len(b))
			}
		}
	}
}

// P3.2, Put: nil data and empty data are the same.
func TestPutEmpty(t *testing.T) {
	a := put(t, from, to, api.Tcp{Src: 7, Head: 24})
	b := put(t, from, to, api.Tcp{Src: 7, Head: 24, Data: []byte{}})
	if !bytes.Equal(a, b) {
		t.Errorf("%x, %x", a, b)
	}
}

// P3.2, Pseudo: both addresses, 0, 6, the number, the highest byte first.
func TestPseudo(t *testing.T) {
	for _, c := range []struct {
		src, dst uint32
		n        int
		want     []byte
	}{
		{0, 0, 0, []byte{0, 0, 0, 0, 0, 0, 0, 0, 0, 6, 0, 0}},
		{from, to, 20, []byte{10, 0, 0, 1, 10, 0, 0, 2, 0, 6, 0, 20}},
		{0x01234567, 0x89abcdef, 0x1234, []byte{1, 0x23, 0x45, 0x67, 0x89, 0xab, 0xcd, 0xef, 0, 6, 0x12, 0x34}},
		{0xffffffff, 0xffffffff, 65535, []byte{255, 255, 255, 255, 255, 255, 255, 255, 0, 6, 255, 255}},
		{0, 0, 65536, []byte{0, 0, 0, 0, 0, 0, 0, 0, 0, 6, 0, 0}},
		{0, 0, 65536 + 258, []byte{0, 0, 0, 0, 0, 0, 0, 0, 0, 6, 1, 2}},
		{0, 0, 1<<40 + 3, []byte{0, 0, 0, 0, 0, 0, 0, 0, 0, 6, 0, 3}},
		{0, 0, -1, []byte{0, 0, 0, 0, 0, 0, 0, 0, 0, 6, 255, 255}},
		{0, 0, -256, []byte{0, 0, 0, 0, 0, 0, 0, 0, 0, 6, 255, 0}},
		{0, 0, -65536, []byte{0, 0, 0, 0, 0, 0, 0, 0, 0, 6, 0, 0}},
		{0, 0, -65537, []byte{0, 0, 0, 0, 0, 0, 0, 0, 0, 6, 255, 255}},
		{1, 2, math.MaxInt, []byte{0, 0, 0, 1, 0, 0, 0, 2, 0, 6, 255, 255}},
		{1, 2, math.MinInt, []byte{0, 0, 0, 1, 0, 0, 0, 2, 0, 6, 0, 0}},
	} {
		if p := Pseudo(c.src, c.dst, c.n); !bytes.Equal(p, c.want) {
			t.Errorf("%x, %x, %d: %x, not %x", c.src, c.dst, c.n, p, c.want)
		}
	}
	for n := range 65536 {
		if p := Pseudo(0, 0, n); len(p) != 12 || int(p[10])*256+int(p[11]) != n {
			t.Errorf("%d: %x", n, p)
		}
	}
}

// P3.2, Same: a difference in any one field is one.
func TestSame(t *testing.T) {
	if !Same(full(), full()) || !Same(api.Tcp{}, api.Tcp{}) || Same(full(), api.Tcp{}) {
		t.Error("full and none")
	}
	for i, change := range []func(h *api.Tcp){
		func(h *api.Tcp) { h.Src ^= 1 },
		func(h *api.Tcp) { h.Src ^= 0x8000 },
		func(h *api.Tcp) { h.Dst ^= 1 },
		func(h *api.Tcp) { h.Dst ^= 0x8000 },
		func(h *api.Tcp) { h.Src, h.Dst = h.Dst, h.Src },
		func(h *api.Tcp) { h.Flags ^= 1 },
		func(h *api.Tcp) { h.Flags ^= 0x80 },
		func(h *api.Tcp) { h.Head++ },
		func(h *api.Tcp) { h.Head += 256 },
		func(h *api.Tcp) { h.Head += 1 << 32 },
		func(h *api.Tcp) { h.Head = -h.Head },
		func(h *api.Tcp) { h.Data[0]++ },
		func(h *api.Tcp) { h.Data[2]++ },
		func(h *api.Tcp) { h.Data = h.Data[:2] },
		func(h *api.Tcp) { h.Data = nil },
		func(h *api.Tcp) { h.Data = append(h.Data, 0) },
	} {
		h := full()
		change(&h)
		if Same(h, full()) || Same(full(), h) {
			t.Errorf("%d: the same", i)
		}
		if !Same(h, h) {
			t.Errorf("%d: not the same as itself", i)
		}
	}
}

// P3.2 and R1, Same: nil and empty data are the same; so are heads that may not
// be, and long data.
func TestSameEdges(t *testing.T) {
	if !Same(api.Tcp{Head: 20}, api.Tcp{Head: 20, Data: []byte{}}) || !Same(api.Tcp{Data: []byte{}}, api.Tcp{}) {
		t.Error("nil and empty")
	}
	a := api.Tcp{Head: -7, Data: make([]byte, 300000)}
	b := api.Tcp{Head: -7, Data: make([]byte, 300000)}
	if !Same(a, b) {
		t.Error("long data")
	}
	b.Data[299999] = 1
	if Same(a, b) {
		t.Error("the last byte of long data")
	}
}

// P3.3: what is put is parsed.
func TestPutIsParsed(t *testing.T) {
	for seed := range 600 {
		src, dst, h := headWith(uint64(seed), 20+seed%11*4, seed*7%97)
		wantHead(t, "what is put", src, dst, put(t, src, dst, h), h)
	}
	for head := 20; head <= 60; head += 4 {
		src, dst, h := headWith(uint64(head), head, 65535-head)
		wantHead(t, "65535 bytes", src, dst, put(t, src, dst, h), h)
	}
	for _, a := range []uint32{0, 1, 0xffff, 0x10000, 0xffff0000, 0xffffffff} {
		h := api.Tcp{Src: 0xffff, Dst: 0xffff, Flags: 0xff, Head: 20, Data: []byte{0xff, 0xff, 0xff}}
		wantHead(t, "an address of the edges", a, ^a, put(t, a, ^a, h), h)
		wantHead(t, "an address of the edges", a, a, put(t, a, a, h), h)
	}
}

// wantTurned asks of each of those bits of b that it is told when it is turned.
// b's sum is right, so that it is not with one bit turned: only a length may be
// told first.
func wantTurned(t *testing.T, b []byte, bits []int) {
	t.Helper()
	for _, bit := range bits {
		b[bit/8] ^= 1 << (bit % 8)
		head := int(b[12]>>4) * 4
		want := api.DrTcpSum
		if head < 20 || head > len(b) {
			want = api.DrTcp
		}
		wantDrop(t, "a bit turned", from, to, b, want)
		b[bit/8] ^= 1 << (bit % 8)
	}
}

// upTo is the numbers below n.
func upTo(n int) []int {
	l := make([]int, n)
	for i := range l {
		l[i] = i
	}
	return l
}

// P3.3: any bit turned in a segment that is right is told, be it one that was
// put or another one.
func TestBitTurned(t *testing.T) {
	zero := full()
	zero.Src += 0xd1e8
	for _, h := range []api.Tcp{{Head: 20}, full(), zero, {Src: 0xffff, Dst: 0xffff, Flags: 0xff, Head: 60, Data: bytes.Repeat([]byte{0xff}, 41)}} {
		b := put(t, from, to, h)
		wantTurned(t, b, upTo(len(b)*8))
		wantHead(t, "turned back", from, to, b, h)
	}
	for n := 20; n < 84; n++ {
		b := mended(uint64(n), n, 5+(n-20)/4%11)
		wantTurned(t, b, upTo(n*8))
	}
	b := mended(5, api.MaxPacket, 15)
	last := upTo(len(b) * 8)[len(b)*8-24:]
	wantTurned(t, b, append(upTo(61*8), last...))
}

// scribble writes over all memory of lists, the spare room behind them too.
func scribble(lists ...[]byte) {
	for _, l := range lists {
		l = l[:cap(l)]
		for i := range l {
			l[i] ^= 0x5a
		}
	}
}

// P3.1 and R4: a head that is told shares no memory with the bytes, nor with
// another one; the bytes, and what is behind them, stay as they were.
func TestParseOwnMemory(t *testing.T) {
	for _, n := range []int{len(fullBytes()), 28} {
		room := append(fullBytes(), bytes.Repeat([]byte{0xee}, 100)...)
		b := room[:n]
		mend(from, to, b)
		was := slices.Clone(room)
		want := full()
		want.Data = slices.Clone(b[28:])
		one, _ := Parse(from, to, b)
		other, _ := Parse(from, to, b)
		scribble(one.Data)
		if !bytes.Equal(room, was) {
			t.Error("what was handed in was changed")
		}
		if !Same(other, want) {
			t.Error("two heads share memory")
		}
		scribble(b)
		if !Same(other, want) {
			t.Error("a head shares memory with the bytes")
		}
	}
	wrong := append(fullBytes(), 1, 2, 3)
	was := slices.Clone(wrong)
	Parse(from, to, wrong[:30])
	if !bytes.Equal(wrong, was) {
		t.Error("what was dropped was changed")
	}
}

// P3.2 and R4: bytes that are told share no memory with the data, nor with
// others; the data, and what is behind them, stay as they were.
func TestPutOwnMemory(t *testing.T) {
	room := append(slices.Clone(full().Data), bytes.Repeat([]byte{0xee}, 100)...)
	h := full()
	h.Data = room[:3]
	was := slices.Clone(room)
	one := put(t, from, to, h)
	other := put(t, from, to, h)
	scribble(one)
	if !bytes.Equal(room, was) {
		t.Error("what was handed in was changed")
	}
	if !bytes.Equal(other, fullBytes()) {
		t.Error("two segments share memory")
	}
	scribble(h.Data)
	if !bytes.Equal(other, fullBytes()) {
		t.Error("a segment shares memory with its data")
	}
}

// P3.2 and R4: pseudo-heads share no memory with each other.
func TestPseudoOwnMemory(t *testing.T) {
	one := Pseudo(from, to, 20)
	other := Pseudo(from, to, 20)
	scribble(one)
	want := []byte{10, 0, 0, 1, 10, 0, 0, 2, 0, 6, 0, 20}
	if !bytes.Equal(other, want) || !bytes.Equal(Pseudo(from, to, 20), want) {
		t.Error("two pseudo-heads share memory")
	}
}

// R3: the same arguments, the same answers, whatever was called between.
func TestSameAnswers(t *testing.T) {
	first := put(t, from, to, full())
	Put(from, to, api.Tcp{})
	Parse(0, 0, nil)
	Parse(from, to, first[:21])
	Pseudo(3, 4, 5)
	if !bytes.Equal(put(t, from, to, full()), first) {
		t.Error("Put")
	}
	wantHead(t, "again", from, to, first, full())
	wantHead(t, "again", from, to, first, full())
}
