package packet

import (
	"bytes"
	"slices"
	"testing"

	"handfast/api"
)

// from and to are the chapter's example's.
const (
	from = 0x0a000001
	to   = 0x0a000002
)

// full has another value in each byte of each field.
var full = api.Tuple{Src: 0x01234567, Dst: 0x89abcdef, SrcPort: 0x1357, DstPort: 0x9bdf}

// greatest has the greatest value in each field.
var greatest = api.Tuple{Src: 0xffffffff, Dst: 0xffffffff, SrcPort: 0xffff, DstPort: 0xffff}

// stream gives the same bytes for the same seed, on every run.
func stream(seed uint64, n int) []byte {
	b := make([]byte, n)
	for i := range b {
		seed = seed*6364136223846793005 + 1442695040888963407
		b[i] = byte(seed >> 56)
	}
	return b
}

// twoAt and fourAt are the numbers of b at that place, the highest byte first.
func twoAt(b []byte, at int) uint16 {
	return uint16(b[at])<<8 | uint16(b[at+1])
}

func fourAt(b []byte, at int) uint32 {
	return uint32(twoAt(b, at))<<16 | uint32(twoAt(b, at+2))
}

// headLen is how many bytes b's IPv4 head tells of itself.
func headLen(b []byte) int {
	return int(b[0]&15) * 4
}

// slowCheck is the check of b, the two bytes at that place left out, and of a
// number more: another way than package sum's.
func slowCheck(b []byte, at, more int) uint16 {
	total := more
	for i, v := range b {
		switch {
		case i == at || i == at+1:
		case i%2 == 0:
			total += int(v) * 256
		default:
			total += int(v)
		}
	}
	// 65536 is 1 modulo 65535: what is carried round is the same. No head, and
	// no pseudo-head, is all 0, so that 0 stands for ffff.
	if total %= 65535; total == 0 {
		total = 65535
	}
	return uint16(65535 - total)
}

// mendHead lays the right check into the IPv4 head of n bytes that b begins with.
func mendHead(b []byte, n int) {
	check := slowCheck(b[:n], 10, 0)
	b[10], b[11] = byte(check>>8), byte(check)
}

// mendSegment lays the right check into b's segment, which begins behind n bytes.
func mendSegment(b []byte, n int) {
	s := b[n:]
	check := slowCheck(s, 16, int(fourAt(b, 12))+int(fourAt(b, 16))+6+len(s))
	s[16], s[17] = byte(check>>8), byte(check)
}

// mend lays both right checks into b.
func mend(b []byte) {
	mendSegment(b, headLen(b))
	mendHead(b, headLen(b))
}

// slowMake is what Make is to tell, laid out byte by byte: another way than
// Make's.
func slowMake(t api.Tuple, flags uint8, data []byte) []byte {
	n := 40 + len(data)
	b := []byte{
		0x45, 0, byte(n >> 8), byte(n), 0, 0, 0, 0, 64, 6, 0, 0,
		byte(t.Src >> 24), byte(t.Src >> 16), byte(t.Src >> 8), byte(t.Src),
		byte(t.Dst >> 24), byte(t.Dst >> 16), byte(t.Dst >> 8), byte(t.Dst),
		byte(t.SrcPort >> 8), byte(t.SrcPort), byte(t.DstPort >> 8), byte(t.DstPort),
		0, 0, 0, 0, 0, 0, 0, 0, 0x50, flags, 0, 0, 0, 0, 0, 0,
	}
	b = append(b, data...)
	mend(b)
	return b
}

// others is a packet as somebody else sends it: each number that is not looked
// at is one of seed's, with so many bytes of options, of TCP head, of data.
func others(seed uint64, options, head, data int) []byte {
	n := 20 + options + head + data
	b := stream(seed, n)
	b[0] = byte(0x45 + options/4)
	b[2], b[3] = byte(n>>8), byte(n)
	b[6], b[7] = b[6]&0x40, 0
	b[9] = 6
	s := b[20+options:]
	s[12] = byte(head/4)<<4 | s[12]&15
	mend(b)
	return b
}

// wantOf is the packet that b is, read byte by byte: another way than Parse's.
func wantOf(b []byte) api.Packet {
	n := headLen(b)
	return api.Packet{
		Tuple: api.Tuple{Src: fourAt(b, 12), Dst: fourAt(b, 16), SrcPort: twoAt(b, n), DstPort: twoAt(b, n+2)},
		Flags: b[n+13],
		Bytes: slices.Clone(b),
	}
}

// wantPacket asks that b is that packet.
func wantPacket(t *testing.T, what string, b []byte, want api.Packet) {
	t.Helper()
	p, drop := Parse(b)
	if drop != api.DrNone {
		t.Errorf("%s: %d bytes: reason %d", what, len(b), drop)
		return
	}
	if p.Tuple != want.Tuple || p.Flags != want.Flags || !bytes.Equal(p.Bytes, want.Bytes) {
		t.Errorf("%s: %d bytes: %v, %x, %d bytes, not %v, %x", what, len(b), p.Tuple, p.Flags, len(p.Bytes), want.Tuple, want.Flags)
	}
}

// wantDrop asks that b is dropped for that reason, and that nothing is told
// beside it.
func wantDrop(t *testing.T, what string, b []byte, want uint8) {
	t.Helper()
	p, drop := Parse(b)
	if drop != want {
		t.Errorf("%s: %d bytes: reason %d, not %d", what, len(b), drop, want)
	}
	if p.Tuple != (api.Tuple{}) || p.Flags != 0 || len(p.Bytes) != 0 {
		t.Errorf("%s: a packet is told beside reason %d: %v", what, drop, p)
	}
}

// made is Make of what may be.
func made(t *testing.T, x api.Tuple, flags uint8, data []byte) []byte {
	t.Helper()
	b, ok := Make(x, flags, data)
	if !ok {
		t.Fatalf("%v, flags %x, %d bytes of data aren't made", x, flags, len(data))
	}
	return b
}

// P5.1 and P5.2: the chapter's example. By hand: the words of its IPv4 head add
// up to 9931, whose complement is 66ce; those of its segment to 6857.
func TestExample(t *testing.T) {
	x := api.Tuple{Src: from, Dst: to, SrcPort: 1000, DstPort: 80}
	want := []byte{
		0x45, 0, 0, 40, 0, 0, 0, 0, 64, 6, 0x66, 0xce, 10, 0, 0, 1, 10, 0, 0, 2,
		3, 0xe8, 0, 80, 0, 0, 0, 0, 0, 0, 0, 0, 0x50, 2, 0, 0, 0x97, 0xa8, 0, 0,
	}
	b, ok := Make(x, api.FlSyn, nil)
	if !ok || len(b) != 40 || !bytes.Equal(b, want) {
		t.Errorf("%x, %v, not %x", b, ok, want)
	}
	p, drop := Parse(want)
	if drop != api.DrNone || p.Tuple != x || p.Flags != api.FlSyn || !bytes.Equal(p.Bytes, want) {
		t.Errorf("%v, %d", p, drop)
	}
	if !Syn(p) || Closes(p) {
		t.Error("it is not a SYN, or it closes")
	}
}

// P5.1: packets as others send them, with and without options of both heads,
// with data of none, of an odd, of an even number of bytes: their tuple, their
// flags, all of their bytes.
func TestParse(t *testing.T) {
	seed := uint64(1)
	for options := 0; options <= 40; options += 4 {
		for head := 20; head <= 60; head += 4 {
			for _, data := range []int{0, 1, 2, 3, 77, 1000} {
				seed++
				b := others(seed, options, head, data)
				wantPacket(t, "another's", b, wantOf(b))
			}
		}
	}
	for _, options := range []int{0, 4, 40} {
		for _, head := range []int{20, 24, 60} {
			for less := range 3 {
				b := others(seed+uint64(less), options, head, api.MaxPacket-20-options-head-less)
				wantPacket(t, "a long one", b, wantOf(b))
			}
		}
	}
}

// P5.1: the tuple is of the head's addresses and the segment's ports, each bit
// at its place; all other bytes turned there tell the same tuple and flags.
func TestParsePlaces(t *testing.T) {
	for _, options := range []int{0, 8} {
		base := others(5, options, 24, 3)
		port := 20 + options
		for bit := range len(base) * 8 {
			b := slices.Clone(base)
			b[bit/8] ^= 1 << (bit % 8)
			switch at := bit / 8; {
			case at == 0, at == 2, at == 3, at == 7, at == 9, at == 10, at == 11:
				continue
			case at == 6 && bit%8 != 6:
				continue
			case at == port+12 && bit%8 > 3, at == port+16, at == port+17:
				continue
			}
			mend(b)
			want := wantOf(base)
			want.Bytes = b
			turn := uint32(1) << (bit % 8)
			switch at := bit / 8; {
			case at >= 12 && at < 16:
				want.Tuple.Src ^= turn << (8 * (15 - at))
			case at >= 16 && at < 20:
				want.Tuple.Dst ^= turn << (8 * (19 - at))
			case at == port || at == port+1:
				want.Tuple.SrcPort ^= uint16(turn << (8 * (port + 1 - at)))
			case at == port+2 || at == port+3:
				want.Tuple.DstPort ^= uint16(turn << (8 * (port + 3 - at)))
			case at == port+13:
				want.Flags ^= uint8(turn)
			}
			wantPacket(t, "one bit", b, want)
		}
	}
}

// P5.1: all flags are told, those of api and the others.
func TestParseFlags(t *testing.T) {
	for flags := range 256 {
		b := others(9, 4, 20, 5)
		b[24+13] = byte(flags)
		mend(b)
		p, drop := Parse(b)
		if drop != api.DrNone || p.Flags != uint8(flags) {
			t.Errorf("flags %x: %x, reason %d", flags, p.Flags, drop)
		}
	}
}

// P5.1: each reason of ip.Parse, beside nothing else that is wrong.
func TestParseHead(t *testing.T) {
	for i, c := range []struct {
		turn func(b []byte) []byte
		want uint8
	}{
		{func(b []byte) []byte { return nil }, api.DrShort},
		{func(b []byte) []byte { return []byte{} }, api.DrShort},
		{func(b []byte) []byte { return b[:1] }, api.DrShort},
		{func(b []byte) []byte { return b[:19] }, api.DrShort},
		{func(b []byte) []byte { b[0] = 0x55; mendHead(b, 20); return b }, api.DrVersion},
		{func(b []byte) []byte { b[0] = 0x05; mendHead(b, 20); return b }, api.DrVersion},
		{func(b []byte) []byte { b[0] = 0x65; mendHead(b, 20); return b }, api.DrVersion},
		{func(b []byte) []byte { b[0] = 0x44; mendHead(b, 16); return b }, api.DrHead},
		{func(b []byte) []byte { b[0] = 0x40; mendHead(b, 20); return b }, api.DrHead},
		{func(b []byte) []byte { b[0] = 0x4c; mendHead(b, 43); return b }, api.DrHead},
		{func(b []byte) []byte { b[0] = 0x4f; return b }, api.DrHead},
		{func(b []byte) []byte { return b[:20] }, api.DrLength},
		{func(b []byte) []byte { return b[:42] }, api.DrLength},
		{func(b []byte) []byte { return append(b, 0) }, api.DrLength},
		{func(b []byte) []byte { b[3]++; mendHead(b, 20); return b }, api.DrLength},
		{func(b []byte) []byte { b[2]++; mendHead(b, 20); return b }, api.DrLength},
		{func(b []byte) []byte { return append(b, make([]byte, 65536)...) }, api.DrLength},
		{func(b []byte) []byte { b[10] ^= 1; return b }, api.DrSum},
		{func(b []byte) []byte { b[11] ^= 128; return b }, api.DrSum},
		{func(b []byte) []byte { b[8]--; return b }, api.DrSum},
		{func(b []byte) []byte { b[6] = 0x20; mendHead(b, 20); return b }, api.DrFragment},
		{func(b []byte) []byte { b[6] = 0x80; mendHead(b, 20); return b }, api.DrFragment},
		{func(b []byte) []byte { b[6] = 0x60; mendHead(b, 20); return b }, api.DrFragment},
		{func(b []byte) []byte { b[7] = 1; mendHead(b, 20); return b }, api.DrFragment},
		{func(b []byte) []byte { b[6] = 0; mendHead(b, 20); return b }, api.DrNone},
		{func(b []byte) []byte { b[6] = 0x40; mendHead(b, 20); return b }, api.DrNone},
	} {
		b := c.turn(others(uint64(i), 0, 20, 3))
		if c.want == api.DrNone {
			wantPacket(t, "right", b, wantOf(b))
		} else {
			wantDrop(t, "the head", b, c.want)
		}
	}
}

// P5.1, DrProtocol: of all protocols just 6 is one, whatever is borne.
func TestParseProtocol(t *testing.T) {
	for protocol := range 256 {
		for _, b := range [][]byte{others(3, 0, 20, 4), others(4, 12, 32, 1)} {
			b[9] = byte(protocol)
			mendHead(b, headLen(b))
			if protocol == 6 {
				wantPacket(t, "TCP", b, wantOf(b))
				continue
			}
			wantDrop(t, "another protocol", b, api.DrProtocol)
			bare := b[:headLen(b)]
			bare[2], bare[3] = 0, byte(len(bare))
			mendHead(bare, len(bare))
			wantDrop(t, "another protocol, nothing borne", bare, api.DrProtocol)
		}
	}
}

// P5.1, DrTcp and DrTcpSum: what is borne is fewer bytes than a TCP head has,
// or tells a length that may not be, or its sum is not right.
func TestParseSegment(t *testing.T) {
	for _, options := range []int{0, 40} {
		for n := range 20 {
			b := others(7, options, 20, 0)[:20+options+n]
			b[3] = byte(len(b))
			mendHead(b, headLen(b))
			wantDrop(t, "less than a TCP head", b, api.DrTcp)
		}
		for fours := range 16 {
			for _, data := range []int{0, 1, 19, 20, 39, 40, 41} {
				b := others(uint64(fours*7+data), options, 20, data)
				at := 20 + options
				b[at+12] = byte(fours)<<4 | b[at+12]&15
				mend(b)
				if fours < 5 || fours*4 > 20+data {
					wantDrop(t, "a length that may not be", b, api.DrTcp)
					b[at+16] ^= 1
					wantDrop(t, "and a wrong sum", b, api.DrTcp)
					continue
				}
				wantPacket(t, "a length that may be", b, wantOf(b))
				b[at+16] ^= 1
				wantDrop(t, "a wrong sum", b, api.DrTcpSum)
			}
		}
	}
}

// P5.1, DrTcpSum: the sum is of the packet's own addresses, of the segment's own
// length, and of all it bears.
func TestParseSegmentSum(t *testing.T) {
	for _, options := range []int{0, 4, 40} {
		for _, data := range []int{0, 1, 2, 501} {
			right := others(uint64(options+data), options, 24, data)
			for at := 12; at < 20; at++ {
				b := slices.Clone(right)
				b[at]++
				mendHead(b, 20+options)
				wantDrop(t, "another address", b, api.DrTcpSum)
			}
			b := append(slices.Clone(right), 0, 0)
			b[2], b[3] = byte(len(b)>>8), byte(len(b))
			mendHead(b, 20+options)
			wantDrop(t, "two bytes 0 more", b, api.DrTcpSum)
			for at := 20 + options + 18; at < len(right); at++ {
				b := slices.Clone(right)
				b[at] ^= 0x10
				wantDrop(t, "another byte", b, api.DrTcpSum)
			}
		}
	}
}

// fault makes a packet wrong for one reason; those of a row are made one behind
// the other, so that none mends what one ahead of it made wrong.
type fault struct {
	drop uint8
	make func(b []byte) []byte
}

// faults are of a packet without options, from the last reason to the first.
var faults = []fault{
	{api.DrTcp, func(b []byte) []byte { b[32] = 0x40; mendSegment(b, 20); return b }},
	{api.DrTcpSum, func(b []byte) []byte { b[36] ^= 1; return b }},
	{api.DrProtocol, func(b []byte) []byte { b[9] = 17; mendHead(b, 20); return b }},
	{api.DrFragment, func(b []byte) []byte { b[6] = 0x20; mendHead(b, 20); return b }},
	{api.DrLength, func(b []byte) []byte { b[3]++; mendHead(b, 20); return b }},
	{api.DrVersion, func(b []byte) []byte { b[0] ^= 0x20; mendHead(b, 20); return b }},
	{api.DrHead, func(b []byte) []byte { b[0] = b[0]&0xf0 | 4; mendHead(b, 20); return b }},
	{api.DrSum, func(b []byte) []byte { b[11] ^= 1; return b }},
	{api.DrShort, func(b []byte) []byte { return b[:19] }},
}

// P5.1 and R2: whichever of the nine are wrong at once, the first one's reason
// is told. (Their numbers rise in the order that the chapters name.)
func TestParseOrder(t *testing.T) {
	for set := range 1 << len(faults) {
		b := others(uint64(set), 0, 20, set%5)
		want := api.DrNone
		for i, f := range faults {
			if set>>i&1 == 0 {
				continue
			}
			b = f.make(b)
			if want == api.DrNone || f.drop < want {
				want = f.drop
			}
		}
		if want == api.DrNone {
			wantPacket(t, "right", b, wantOf(b))
		} else {
			wantDrop(t, "several", b, want)
		}
	}
}

// P5.1 and R1: whatever bytes there are, one answer is told, and nothing beside
// a reason.
func TestParseAny(t *testing.T) {
	for n := range 300 {
		for seed := range 5 {
			b := stream(uint64(n*5+seed), n)
			_, drop := Parse(b)
			wantDrop(t, "any bytes", b, drop)
			if n > 0 {
				b[0] = 0x45
				_, drop = Parse(b)
				wantDrop(t, "any bytes behind 45", b, drop)
			}
			if drop == api.DrNone || drop > api.DrTcpSum {
				t.Errorf("%d bytes: reason %d", n, drop)
			}
		}
	}
	for _, n := range []int{65535, 65536, 65536 + 40, 300000} {
		wantDrop(t, "zeros", make([]byte, n), api.DrVersion)
		b := others(1, 0, 20, 0)
		b = append(b, make([]byte, n)...)
		wantDrop(t, "a packet, and many zeros", b, api.DrLength)
	}
}

// P5.1 and R4: the packet's bytes lie in memory of their own; what is handed in,
// and what lies behind it, stays, and isn't read.
func TestParseOwnMemory(t *testing.T) {
	b := others(2, 8, 24, 7)
	room := append(slices.Clone(b), 0xaa, 0xbb, 0xcc)
	was := slices.Clone(room)
	first, drop := Parse(room[:len(b)])
	second, _ := Parse(room[:len(b)])
	if drop != api.DrNone {
		t.Fatalf("reason %d", drop)
	}
	clear(first.Bytes[:cap(first.Bytes)])
	_ = append(first.Bytes, 1, 2, 3)
	if !bytes.Equal(second.Bytes, b) {
		t.Error("two answers share memory")
	}
	if !bytes.Equal(room, was) {
		t.Error("what was handed in has changed")
	}
	wantDrop(t, "with the room behind it", room, api.DrLength)
	clear(room)
	if !Same(second, wantOf(b)) {
		t.Error("an answer shares memory with what was handed in")
	}
	for _, f := range faults {
		wrong := f.make(others(3, 0, 20, 5))
		was := slices.Clone(wrong[:cap(wrong)])
		Parse(wrong)
		if !bytes.Equal(wrong[:cap(wrong)], was) {
			t.Errorf("reason %d: what was handed in has changed", f.drop)
		}
	}
}

// P5.2: byte for byte what the chapter says, of edge tuples, all flags, data of
// even and of odd numbers of bytes.
func TestMake(t *testing.T) {
	for i, x := range []api.Tuple{
		{}, full, greatest,
		{Src: 0x01020304}, {Dst: 0x01020304}, {SrcPort: 0x0102}, {DstPort: 0x0102},
		{Src: 0xffffffff}, {Dst: 0xffffffff}, {SrcPort: 0xffff}, {DstPort: 0xffff},
	} {
		for flags := range 256 {
			data := stream(uint64(flags), (flags+i)%9)
			if b := made(t, x, uint8(flags), data); !bytes.Equal(b, slowMake(x, uint8(flags), data)) {
				t.Fatalf("%v, %x, %x: %x", x, flags, data, b)
			}
		}
	}
	for n := range 200 {
		for _, data := range [][]byte{stream(uint64(n), n), make([]byte, n), bytes.Repeat([]byte{0xff}, n)} {
			if b := made(t, full, api.FlAck, data); !bytes.Equal(b, slowMake(full, api.FlAck, data)) {
				t.Fatalf("%d bytes: %x", n, b)
			}
		}
	}
}

// P5.2: nil and empty data are the same.
func TestMakeEmpty(t *testing.T) {
	a, b := made(t, full, 5, nil), made(t, full, 5, []byte{})
	if len(a) != 40 || !bytes.Equal(a, b) {
		t.Errorf("%x, %x", a, b)
	}
}

// P5.2: as many bytes of data as a packet may have, one fewer, one more, and
// numbers at which an IPv4 head, a segment or 16 bits end.
func TestMakeLong(t *testing.T) {
	const most = api.MaxPacket - 40
	for _, n := range []int{1000, 1460, 32768, most - 1, most} {
		data := stream(uint64(n), n)
		b := made(t, full, api.FlSyn, data)
		if len(b) != n+40 || !bytes.Equal(b, slowMake(full, api.FlSyn, data)) {
			t.Errorf("%d bytes of data: %d bytes", n, len(b))
		}
		wantPacket(t, "a long one", b, api.Packet{Tuple: full, Flags: api.FlSyn, Bytes: b})
	}
	for _, n := range []int{
		most + 1, most + 2, most + 19, most + 20, most + 21, most + 40, most + 41,
		65536 + 20, 65536 + 40, 131072 - 40, 131072, 300000,
	} {
		for _, data := range [][]byte{make([]byte, n), stream(uint64(n), n)} {
			if b, ok := Make(full, api.FlSyn, data); ok || len(b) != 0 {
				t.Errorf("%d bytes of data: %d bytes, %v", n, len(b), ok)
			}
		}
	}
}

// P5.2 and R4: the bytes lie in memory of their own; the data, and what lies
// behind it, stays, and isn't read.
func TestMakeOwnMemory(t *testing.T) {
	for n := range 10 {
		room := stream(uint64(n), n+5)
		was := slices.Clone(room)
		want := slowMake(full, 3, room[:n])
		first, second := made(t, full, 3, room[:n]), made(t, full, 3, room[:n])
		clear(first[:cap(first)])
		if !bytes.Equal(second, want) {
			t.Errorf("%d: two answers share memory", n)
		}
		if !bytes.Equal(room, was) {
			t.Errorf("%d: what was handed in has changed", n)
		}
		clear(room)
		if !bytes.Equal(second, want) {
			t.Errorf("%d: an answer shares memory with what was handed in", n)
		}
	}
	long := bytes.Repeat([]byte{7}, 65536)
	Make(full, 3, long)
	if !bytes.Equal(long, bytes.Repeat([]byte{7}, 65536)) {
		t.Error("data that is too long has changed")
	}
}

// P5.3: of all flags, SYN, FIN and RST alone tell; the flags alone, whatever the
// bytes or the tuple say.
func TestSynCloses(t *testing.T) {
	const fin, syn, rst, ack = 1, 2, 4, 16
	for _, c := range []struct {
		flags       uint8
		syn, closes bool
	}{
		{0, false, false}, {syn, true, false}, {syn | ack, true, false}, {ack, false, false},
		{fin, false, true}, {rst, false, true}, {fin | rst, false, true}, {fin | ack, false, true}, {rst | ack, false, true},
		{syn | fin, false, true}, {syn | rst, false, true}, {syn | fin | rst, false, true},
		{8, false, false}, {32, false, false}, {64, false, false}, {128, false, false},
		{0xff, false, true}, {0xff &^ syn, false, true}, {0xff &^ (fin | rst), true, false}, {0xff &^ (fin | syn | rst), false, false},
	} {
		if p := (api.Packet{Flags: c.flags}); Syn(p) != c.syn || Closes(p) != c.closes {
			t.Errorf("flags %x: %v, %v", c.flags, Syn(p), Closes(p))
		}
	}
	closing, opening := slowMake(full, fin, nil), slowMake(full, syn, nil)
	for flags := range 256 {
		f := uint8(flags)
		closes := f%2 == 1 || f/4%2 == 1
		for _, b := range [][]byte{nil, {}, closing, opening, make([]byte, 100000)} {
			p := api.Packet{Tuple: full, Flags: f, Bytes: b}
			if Closes(p) != closes || Syn(p) != (f/2%2 == 1 && !closes) {
				t.Errorf("flags %x: %v, %v", flags, Syn(p), Closes(p))
			}
		}
		p, _ := Parse(slowMake(full, f, nil))
		if Closes(p) != closes || Syn(p) != (f/2%2 == 1 && !closes) {
			t.Errorf("parsed, flags %x: %v, %v", flags, Syn(p), Closes(p))
		}
	}
}

// P5.3, Same: those that differ in one part alone are not the same, whichever.
func TestSame(t *testing.T) {
	one := func() api.Packet {
		return api.Packet{Tuple: full, Flags: 0x12, Bytes: []byte{1, 2, 3}}
	}
	for i, turn := range []func(p *api.Packet){
		func(p *api.Packet) { p.Tuple.Src++ },
		func(p *api.Packet) { p.Tuple.Dst ^= 1 << 31 },
		func(p *api.Packet) { p.Tuple.SrcPort-- },
		func(p *api.Packet) { p.Tuple.DstPort ^= 1 << 15 },
		func(p *api.Packet) { p.Tuple = api.Tuple{} },
		func(p *api.Packet) { p.Flags ^= 1 },
		func(p *api.Packet) { p.Flags ^= 0x80 },
		func(p *api.Packet) { p.Bytes[0]++ },
		func(p *api.Packet) { p.Bytes[2]++ },
		func(p *api.Packet) { p.Bytes = p.Bytes[:2] },
		func(p *api.Packet) { p.Bytes = append(p.Bytes, 0) },
		func(p *api.Packet) { p.Bytes = nil },
	} {
		a, b := one(), one()
		turn(&b)
		if Same(a, b) || Same(b, a) {
			t.Errorf("%d: the same", i)
		}
		if !Same(b, b) || !Same(b, Own(b)) {
			t.Errorf("%d: not the same as itself", i)
		}
	}
	if !Same(one(), one()) || !Same(api.Packet{}, api.Packet{}) {
		t.Error("not the same")
	}
	if !Same(api.Packet{}, api.Packet{Bytes: []byte{}}) || !Same(api.Packet{Bytes: []byte{}}, api.Packet{}) {
		t.Error("nil and empty are not the same")
	}
}

// P5.3 and R4, Own: the same in all, in memory of its own, of packets such as
// nothing makes as well.
func TestOwn(t *testing.T) {
	for i, p := range []api.Packet{
		{}, {Bytes: []byte{}}, {Tuple: full, Flags: 0xff},
		{Tuple: greatest, Flags: 2, Bytes: []byte{9}},
		wantOf(others(1, 0, 20, 0)), wantOf(others(2, 40, 60, 1001)),
		{Bytes: stream(1, 300000)},
	} {
		want := slices.Clone(p.Bytes)
		room := append(p.Bytes, 1, 2, 3)
		p.Bytes = room[:len(want)]
		first, second := Own(p), Own(p)
		if first.Tuple != p.Tuple || first.Flags != p.Flags || !bytes.Equal(first.Bytes, want) {
			t.Errorf("%d: another one", i)
		}
		clear(first.Bytes[:cap(first.Bytes)])
		if !bytes.Equal(second.Bytes, want) || !bytes.Equal(room[:len(want)], want) || !bytes.Equal(room[len(want):], []byte{1, 2, 3}) {
			t.Errorf("%d: memory is shared", i)
		}
		clear(room)
		if !bytes.Equal(second.Bytes, want) {
			t.Errorf("%d: memory is shared with what was handed in", i)
		}
	}
}

// P5.4: what is made is parsed.
func TestMadeIsParsed(t *testing.T) {
	for seed := range 300 {
		s := stream(uint64(seed), 13)
		x := api.Tuple{Src: fourAt(s, 0), Dst: fourAt(s, 4), SrcPort: twoAt(s, 8), DstPort: twoAt(s, 10)}
		b := made(t, x, s[12], stream(uint64(seed)+1, seed))
		wantPacket(t, "what is made", b, api.Packet{Tuple: x, Flags: s[12], Bytes: slices.Clone(b)})
	}
	for flags := range 256 {
		for _, x := range []api.Tuple{{}, full, greatest} {
			b := made(t, x, uint8(flags), nil)
			wantPacket(t, "what is made", b, api.Packet{Tuple: x, Flags: uint8(flags), Bytes: slices.Clone(b)})
		}
	}
}

// turned is the reason for which b, right but for one bit of the byte at that
// place, is to be dropped.
func turned(b []byte, at int) uint8 {
	n := headLen(b)
	tells := int(b[n+12]>>4) * 4
	switch {
	case at == 2 || at == 3:
		return api.DrLength
	case at < n:
		return api.DrSum
	case tells < 20 || tells > len(b)-n:
		return api.DrTcp
	}
	return api.DrTcpSum
}

// wantTold asks of b, which is right, that each bit that is turned in these
// bytes of it is told.
func wantTold(t *testing.T, what string, b []byte, places []int) {
	t.Helper()
	if _, drop := Parse(b); drop != api.DrNone {
		t.Fatalf("%s: reason %d", what, drop)
	}
	for _, at := range places {
		for bit := range 8 {
			b[at] ^= 1 << bit
			wantDrop(t, what, b, turned(b, at))
			b[at] ^= 1 << bit
		}
	}
}

// behindFirst are the places of all bytes of b but the first one.
func behindFirst(b []byte) []int {
	l := make([]int, 0, len(b))
	for at := 1; at < len(b); at++ {
		l = append(l, at)
	}
	return l
}

// P5.4: any bit turned behind the first byte is told, whatever it was.
func TestBitTurned(t *testing.T) {
	for _, b := range [][]byte{
		slowMake(api.Tuple{}, 0, nil), slowMake(full, api.FlSyn, nil), slowMake(greatest, 0xff, []byte{0xff, 0xff, 0xff}),
		slowMake(full, api.FlAck, stream(1, 40)), slowMake(full, api.FlAck, stream(2, 41)), slowMake(full, 0, make([]byte, 100)),
		others(1, 0, 20, 0), others(2, 4, 24, 1), others(3, 40, 60, 0), others(4, 40, 20, 77), others(5, 0, 60, 33),
	} {
		wantTold(t, "a bit turned", b, behindFirst(b))
	}
	long := slowMake(full, api.FlAck, stream(3, api.MaxPacket-40))
	wantTold(t, "a long one", long, []int{1, 2, 3, 6, 9, 10, 12, 19, 20, 23, 32, 33, 36, 37, 40, 5000, 5001, 65533, 65534})
}

// P5.4: so it is where a check is 0, whose complement is of the same sum.
func TestBitTurnedByCheckZero(t *testing.T) {
	b := others(6, 4, 20, 3)
	number := twoAt(b, 4) + twoAt(b, 10)
	if number < twoAt(b, 4) {
		number++
	}
	b[4], b[5] = byte(number>>8), byte(number)
	port := twoAt(b, 24) + twoAt(b, 24+16)
	if port < twoAt(b, 24) {
		port++
	}
	b[24], b[25] = byte(port>>8), byte(port)
	mend(b)
	if twoAt(b, 10) != 0 || twoAt(b, 24+16) != 0 {
		t.Fatalf("checks %x, %x", twoAt(b, 10), twoAt(b, 24+16))
	}
	wantPacket(t, "checks of 0", b, wantOf(b))
	wantTold(t, "checks of 0", b, behindFirst(b))
	whole := slices.Clone(b)
	whole[10], whole[11] = 0xff, 0xff
	wantDrop(t, "a head's check ffff for 0", whole, api.DrSum)
}

// P5.4: none is both a SYN, and closes.
func TestNoneIsBoth(t *testing.T) {
	for flags := range 256 {
		b := made(t, full, uint8(flags), nil)
		p, drop := Parse(b)
		if drop != api.DrNone || Syn(p) && Closes(p) {
			t.Errorf("flags %x: reason %d, %v, %v", flags, drop, Syn(p), Closes(p))
		}
	}
}

// R3: the same arguments, the same answers, whatever was called between.
func TestSameAnswers(t *testing.T) {
	b := others(8, 4, 24, 9)
	want := wantOf(b)
	for i := range 5 {
		wantPacket(t, "again", b, want)
		wantDrop(t, "nothing", nil, api.DrShort)
		if c := made(t, full, 2, []byte{1}); !bytes.Equal(c, slowMake(full, 2, []byte{1})) {
			t.Errorf("%d: %x", i, c)
		}
		Parse(b[:30])
		Make(greatest, 1, make([]byte, 70000))
		Own(want)
	}
}
