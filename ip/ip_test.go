package ip

import (
	"bytes"
	"slices"
	"testing"

	"handfast/api"
)

// full is a head with another value in each byte, options and a payload of an
// odd number of bytes.
func full() api.Head {
	return api.Head{
		Service: 0x11, Number: 0x2233, Flags: api.DontFragment, Hops: 0x44, Protocol: 0x55,
		Src: 0x66778899, Dst: 0xaabbccdd,
		Options: []byte{1, 2, 3, 4, 5, 6, 7, 8}, Payload: []byte{9, 10, 11},
	}
}

// fullBytes are full's, worked out by hand: the words of the head but its
// check add up to 36474, carried round 6477, whose complement is 9b88.
func fullBytes() []byte {
	return []byte{
		0x47, 0x11, 0, 31, 0x22, 0x33, 0x40, 0, 0x44, 0x55, 0x9b, 0x88,
		0x66, 0x77, 0x88, 0x99, 0xaa, 0xbb, 0xcc, 0xdd,
		1, 2, 3, 4, 5, 6, 7, 8,
		9, 10, 11,
	}
}

// stream gives the same bytes for the same seed, on every run.
func stream(seed uint64, n int) []byte {
	b := make([]byte, n)
	for i := range b {
		seed = seed*6364136223846793005 + 1442695040888963407
		b[i] = byte(seed >> 56)
	}
	return b
}

// headWith is one that may be, of that many bytes of options and payload.
func headWith(seed uint64, options, payload int) api.Head {
	s := stream(seed, 20)
	return api.Head{
		Service: s[0], Number: uint16(s[1])<<8 | uint16(s[2]), Flags: uint16(s[3]&1) << 14,
		Hops: s[4], Protocol: s[5],
		Src:     uint32(s[6])<<24 | uint32(s[7])<<16 | uint32(s[8])<<8 | uint32(s[9]),
		Dst:     uint32(s[10])<<24 | uint32(s[11])<<16 | uint32(s[12])<<8 | uint32(s[13]),
		Options: stream(seed+1, options), Payload: stream(seed+2, payload),
	}
}

// put is Put of what may be.
func put(t *testing.T, h api.Head) []byte {
	t.Helper()
	b, ok := Put(h)
	if !ok {
		t.Fatalf("it may be, and isn't put: %d options, %d borne", len(h.Options), len(h.Payload))
	}
	return b
}

// slowCheck is the check of a head, its own two bytes left out: another way
// than package sum's.
func slowCheck(head []byte) uint16 {
	total := 0
	for i := 0; i+1 < len(head); i += 2 {
		if i != 10 {
			total += int(head[i])*256 + int(head[i+1])
		}
	}
	// Modulo 65535 what is carried round is the same; 0 stands for ffff, as
	// the first byte is not 0.
	if total %= 65535; total == 0 {
		total = 65535
	}
	return uint16(65535 - total)
}

// mend lays the right check into bytes whose first one tells a head that is
// there.
func mend(b []byte) {
	head := min(len(b), max(20, int(b[0]&15)*4))
	check := slowCheck(b[:head])
	b[10], b[11] = byte(check>>8), byte(check)
}

// wantDrop asks that b is no head's, for that reason, and that nothing is told
// beside it.
func wantDrop(t *testing.T, what string, b []byte, want uint8) {
	t.Helper()
	h, drop := Parse(b)
	if drop != want {
		t.Errorf("%s: reason %d, not %d", what, drop, want)
	}
	if !Same(h, api.Head{}) {
		t.Errorf("%s: a head is told beside reason %d: %v", what, drop, h)
	}
}

// wantHead asks that b is h's bytes.
func wantHead(t *testing.T, what string, b []byte, want api.Head) {
	t.Helper()
	if h, drop := Parse(b); drop != api.DrNone || !Same(h, want) {
		t.Errorf("%s: %v, reason %d, not %v", what, h, drop, want)
	}
}

// P2.1 and P2.2: the chapter's examples.
func TestExamples(t *testing.T) {
	zero := []byte{69, 0, 0, 20, 0, 0, 0, 0, 0, 0, 186, 235, 0, 0, 0, 0, 0, 0, 0, 0}
	for _, h := range []api.Head{{}, {Options: []byte{}, Payload: []byte{}}} {
		if b, ok := Put(h); !ok || !bytes.Equal(b, zero) {
			t.Errorf("all 0: %v, %v", b, ok)
		}
		wantHead(t, "all 0", zero, h)
	}
	h := api.Head{Hops: 64, Protocol: 6}
	b := put(t, h)
	if b[10] != 122 || b[11] != 229 || b[8] != 64 || b[9] != 6 {
		t.Errorf("Hops 64, Protocol 6: %v", b)
	}
	wantHead(t, "Hops 64, Protocol 6", b, h)
}

// P2.1, Put: each field at its place, the highest byte first; the check over
// the head alone, its options included.
func TestPut(t *testing.T) {
	if b, ok := Put(full()); !ok || !bytes.Equal(b, fullBytes()) {
		t.Errorf("%x, %v, not %x", b, ok, fullBytes())
	}
	for i, c := range []struct {
		h  api.Head
		at int
		b  []byte
	}{
		{api.Head{Service: 0xab}, 1, []byte{0xab}},
		{api.Head{Number: 0xabcd}, 4, []byte{0xab, 0xcd}},
		{api.Head{Flags: api.DontFragment}, 6, []byte{0x40, 0}},
		{api.Head{Hops: 0xab}, 8, []byte{0xab}},
		{api.Head{Protocol: 0xab}, 9, []byte{0xab}},
		{api.Head{Src: 0x89abcdef}, 12, []byte{0x89, 0xab, 0xcd, 0xef}},
		{api.Head{Dst: 0x89abcdef}, 16, []byte{0x89, 0xab, 0xcd, 0xef}},
		{api.Head{Options: []byte{5, 6, 7, 8}}, 20, []byte{5, 6, 7, 8}},
		{api.Head{Payload: []byte{5, 6, 7}}, 20, []byte{5, 6, 7}},
	} {
		want := make([]byte, 20)
		want[0], want[3] = 69, 20
		if c.at == 20 {
			want = append(want, c.b...)
			want[0] += byte(len(c.h.Options) / 4)
			want[3] += byte(len(c.b))
		}
		copy(want[c.at:], c.b)
		mend(want)
		if b, ok := Put(c.h); !ok || !bytes.Equal(b, want) {
			t.Errorf("%d: %x, %v, not %x", i, b, ok, want)
		}
	}
}

// P2.1, Put: the first byte tells the words, the length all bytes, whatever
// options and payload there are; the check is that of the head with 0, 0.
func TestPutLengths(t *testing.T) {
	for options := 0; options <= 40; options += 4 {
		for _, payload := range []int{0, 1, 2, 3, 215, 216, 235, 236, 255, 256, 1460, 65535 - 20 - options} {
			h := headWith(uint64(options*7+payload), options, payload)
			b := put(t, h)
			n := 20 + options + payload
			if len(b) != n || b[0] != byte(0x45+options/4) || b[2] != byte(n>>8) || b[3] != byte(n) {
				t.Errorf("%d options, %d borne: %d bytes, %x", options, payload, len(b), b[:4])
			}
			check := slowCheck(b[:20+options])
			if b[10] != byte(check>>8) || b[11] != byte(check) {
				t.Errorf("%d options, %d borne: check %x, not %x", options, payload, b[10:12], check)
			}
			if !bytes.Equal(b[20:20+options], h.Options) || !bytes.Equal(b[20+options:], h.Payload) {
				t.Errorf("%d options, %d borne: not these", options, payload)
			}
		}
	}
}

// wantMay asks Right, Size and Put whether h may be.
func wantMay(t *testing.T, h api.Head, may bool) {
	t.Helper()
	size := 0
	if may {
		size = 20 + len(h.Options) + len(h.Payload)
	}
	if Right(h) != may {
		t.Errorf("flags %x, %d options, %d borne: Right is %v", h.Flags, len(h.Options), len(h.Payload), !may)
	}
	if n := Size(h); n != size {
		t.Errorf("flags %x, %d options, %d borne: Size is %d, not %d", h.Flags, len(h.Options), len(h.Payload), n, size)
	}
	if b, ok := Put(h); ok != may || len(b) != size {
		t.Errorf("flags %x, %d options, %d borne: put as %d bytes, %v", h.Flags, len(h.Options), len(h.Payload), len(b), ok)
	}
}

// P2.1: of all Flags just 0 and DontFragment may be.
func TestRightFlags(t *testing.T) {
	for f := range 65536 {
		wantMay(t, api.Head{Flags: uint16(f)}, f == 0 || f == 0x4000)
	}
}

// P2.1: options may be from 0 to 40 bytes, in fours.
func TestRightOptions(t *testing.T) {
	wantMay(t, api.Head{Options: []byte{}}, true)
	for n := range 130 {
		wantMay(t, api.Head{Options: make([]byte, n)}, n <= 40 && n%4 == 0)
		wantMay(t, api.Head{Options: make([]byte, n), Payload: []byte{1, 2, 3}}, n <= 40 && n%4 == 0)
	}
	for _, n := range []int{256, 260, 1024, 65515, 65516, 65536, 65540, 300000} {
		wantMay(t, api.Head{Options: make([]byte, n)}, false)
	}
}

// P2.1: all bytes may be MaxPacket, and not one more, whatever options there
// are.
func TestRightLong(t *testing.T) {
	room := make([]byte, 200000)
	for options := 0; options <= 40; options += 4 {
		most := api.MaxPacket - 20 - options
		for _, n := range []int{0, 1, most - 1, most, most + 1, most + 2, 65535, 65536, 65556, 131072, 200000} {
			wantMay(t, api.Head{Options: room[:options], Payload: room[:n]}, n <= most)
		}
	}
}

// P2.1: what may not be for several causes may not be; values of the other
// fields never matter.
func TestRightSeveral(t *testing.T) {
	h := full()
	wantMay(t, h, true)
	wantMay(t, api.Head{Service: 255, Number: 65535, Flags: api.DontFragment, Hops: 255, Protocol: 255, Src: 0xffffffff, Dst: 0xffffffff}, true)
	h.Flags = 0x8000
	wantMay(t, h, false)
	h.Options = h.Options[:7]
	wantMay(t, h, false)
	h.Payload = make([]byte, 70000)
	wantMay(t, h, false)
	h.Flags = 0
	wantMay(t, h, false)
	h.Options = h.Options[:4]
	wantMay(t, h, false)
	h.Payload = h.Payload[:5]
	wantMay(t, h, true)
}

// P2.1, Same: a difference in any one field is one.
func TestSame(t *testing.T) {
	if !Same(full(), full()) || !Same(api.Head{}, api.Head{}) || Same(full(), api.Head{}) {
		t.Error("full and none")
	}
	for i, change := range []func(h *api.Head){
		func(h *api.Head) { h.Service ^= 0x80 },
		func(h *api.Head) { h.Number ^= 1 },
		func(h *api.Head) { h.Number ^= 0x8000 },
		func(h *api.Head) { h.Flags ^= 0x4000 },
		func(h *api.Head) { h.Flags ^= 1 },
		func(h *api.Head) { h.Hops ^= 1 },
		func(h *api.Head) { h.Protocol ^= 1 },
		func(h *api.Head) { h.Src ^= 1 },
		func(h *api.Head) { h.Src ^= 0x80000000 },
		func(h *api.Head) { h.Dst ^= 1 },
		func(h *api.Head) { h.Dst ^= 0x80000000 },
		func(h *api.Head) { h.Src, h.Dst = h.Dst, h.Src },
		func(h *api.Head) { h.Options[7]++ },
		func(h *api.Head) { h.Options = h.Options[:4] },
		func(h *api.Head) { h.Options = nil },
		func(h *api.Head) { h.Options = append(h.Options, 0) },
		func(h *api.Head) { h.Payload[0]++ },
		func(h *api.Head) { h.Payload = h.Payload[:2] },
		func(h *api.Head) { h.Payload = nil },
		func(h *api.Head) { h.Payload = append(h.Payload, 0) },
		func(h *api.Head) { h.Options, h.Payload = h.Payload, h.Options },
	} {
		h := full()
		change(&h)
		if Same(h, full()) || Same(full(), h) {
			t.Errorf("%d: the same", i)
		}
		if !Same(h, h) {
			t.Errorf("%d: not the same as itself", i)
		}
	}
}

// P2.1 and R1, Same: nil and empty are the same; so are long lists that are
// alike, and heads that may not be.
func TestSameEdges(t *testing.T) {
	if !Same(api.Head{}, api.Head{Options: []byte{}, Payload: []byte{}}) || !Same(api.Head{Payload: []byte{}}, api.Head{Options: []byte{}}) {
		t.Error("nil and empty")
	}
	a := api.Head{Flags: 0xffff, Options: make([]byte, 70001), Payload: make([]byte, 300000)}
	b := Own(a)
	if !Same(a, b) {
		t.Error("long lists")
	}
	b.Payload[299999] = 1
	if Same(a, b) {
		t.Error("the last byte of a long list")
	}
}

// P2.1, Own: the same head, be it one that may be or not.
func TestOwn(t *testing.T) {
	wrong := full()
	wrong.Flags, wrong.Options, wrong.Payload = 0xffff, stream(1, 43), stream(2, 70000)
	for i, h := range []api.Head{{}, full(), wrong, {Options: []byte{}, Payload: []byte{}}, {Payload: []byte{1}}, {Options: []byte{1}}} {
		if o := Own(h); !Same(o, h) {
			t.Errorf("%d: %v", i, o)
		}
	}
}

// scribble writes over all memory of lists, the spare room behind them too.
func scribble(lists ...[]byte) {
	for _, l := range lists {
		l = l[:cap(l)]
		for i := range l {
			l[i] ^= 0x5a
		}
	}
}

// P2.1 and R4, Own: what is told shares no memory with what was handed in, its
// two lists none with each other, two answers none.
func TestOwnMemory(t *testing.T) {
	room := stream(3, 64)
	h := full()
	h.Options, h.Payload = room[:8], room[8:20]
	want := full()
	want.Options, want.Payload = slices.Clone(room[:8]), slices.Clone(room[8:20])
	kept := slices.Clone(room)
	first, second := Own(h), Own(h)
	scribble(first.Options)
	if !bytes.Equal(first.Payload, want.Payload) {
		t.Error("the two lists of one answer share memory")
	}
	scribble(first.Payload)
	if !bytes.Equal(room, kept) {
		t.Error("an answer shares memory with what was handed in")
	}
	scribble(room)
	if !Same(second, want) {
		t.Error("an answer shares memory with another one, or with what was handed in")
	}
}

// P2.1 and R4, Put: bytes lie in memory of their own; heads, and the room
// behind their lists, stay as they are.
func TestPutMemory(t *testing.T) {
	room := stream(4, 64)
	kept := slices.Clone(room)
	h := full()
	h.Options, h.Payload = room[:8], room[16:20]
	first, second := put(t, h), put(t, h)
	Right(h)
	Size(h)
	Same(h, h)
	if !bytes.Equal(room, kept) {
		t.Error("what was handed in has changed")
	}
	want := slices.Clone(first)
	scribble(first)
	if !bytes.Equal(room, kept) {
		t.Error("the answer shares memory with what was handed in")
	}
	scribble(room)
	if !bytes.Equal(second, want) {
		t.Error("an answer shares memory with another one, or with what was handed in")
	}
}

// P2.2 and R4, Parse: a head lies in memory of its own; bytes, and the room
// behind them, stay as they are, whatever the reason.
func TestParseMemory(t *testing.T) {
	room := append(fullBytes(), stream(5, 33)...)
	n := len(fullBytes())
	for _, at := range []int{0, 3, 6, 10, 25, 40} {
		other := slices.Clone(room)
		other[at] ^= 0xf0
		kept := slices.Clone(other)
		for _, end := range []int{0, 19, 20, 28, n, len(room)} {
			Parse(other[:end])
		}
		if !bytes.Equal(other, kept) {
			t.Errorf("the byte %d being another one: what was handed in has changed", at)
		}
	}
	first, _ := Parse(room[:n])
	second, drop := Parse(room[:n])
	if drop != api.DrNone {
		t.Fatalf("spare room was read: %d", drop)
	}
	kept := slices.Clone(room)
	scribble(first.Options)
	if !bytes.Equal(first.Payload, full().Payload) {
		t.Error("the two lists of one answer share memory")
	}
	scribble(first.Payload)
	if !bytes.Equal(room, kept) {
		t.Error("an answer shares memory with what was handed in")
	}
	scribble(room)
	if !Same(second, full()) {
		t.Error("an answer shares memory with another one, or with what was handed in")
	}
}

// P2.2: what is parsed, field by field.
func TestParse(t *testing.T) {
	h, drop := Parse(fullBytes())
	if drop != api.DrNone {
		t.Fatal(drop)
	}
	if h.Service != 0x11 || h.Number != 0x2233 || h.Flags != 0x4000 || h.Hops != 0x44 || h.Protocol != 0x55 || h.Src != 0x66778899 || h.Dst != 0xaabbccdd {
		t.Errorf("%x", h)
	}
	if !bytes.Equal(h.Options, []byte{1, 2, 3, 4, 5, 6, 7, 8}) || !bytes.Equal(h.Payload, []byte{9, 10, 11}) {
		t.Errorf("%x, %x", h.Options, h.Payload)
	}
}

// P2.2, DrShort: fewer than 20 bytes, whatever they are.
func TestParseShort(t *testing.T) {
	wantDrop(t, "nil", nil, api.DrShort)
	wantDrop(t, "empty", []byte{}, api.DrShort)
	for n := range 20 {
		wantDrop(t, "the beginning of a head", fullBytes()[:n], api.DrShort)
		wantDrop(t, "ones", bytes.Repeat([]byte{0xff}, n), api.DrShort)
		wantDrop(t, "zeros", make([]byte, n), api.DrShort)
		b := make([]byte, n)
		if n > 3 {
			b[0], b[3] = 0x44, byte(n)
		}
		wantDrop(t, "as many as are told", b, api.DrShort)
	}
	wantHead(t, "20 bytes", put(t, api.Head{}), api.Head{})
}

// P2.2, DrVersion and DrHead: each first byte, at each number of bytes about
// those of the heads that it may tell.
func TestParseFirstByte(t *testing.T) {
	for first := range 256 {
		for n := 20; n <= 66; n++ {
			b := make([]byte, n)
			b[0], b[3] = byte(first), byte(n)
			mend(b)
			head := first % 16 * 4
			switch {
			case first/16 != 4:
				wantDrop(t, "another version", b, api.DrVersion)
			case head < 20 || head > n:
				wantDrop(t, "a head's length", b, api.DrHead)
			default:
				wantHead(t, "a right first byte", b, api.Head{Options: make([]byte, head-20), Payload: make([]byte, n-head)})
			}
		}
	}
}

// P2.2, DrLength: any length but that of the bytes.
func TestParseLength(t *testing.T) {
	b := fullBytes()
	for told := range 65536 {
		b[2], b[3] = byte(told>>8), byte(told)
		mend(b)
		if told == len(b) {
			wantHead(t, "the length of the bytes", b, full())
		} else {
			wantDrop(t, "another length", b, api.DrLength)
		}
	}
}

// P2.2, DrLength: bytes that are more than a length can tell, be it the lower
// 16 bits of how many they are.
func TestParseLong(t *testing.T) {
	h := headWith(6, 40, 65535-60)
	b := put(t, h)
	wantHead(t, "MaxPacket bytes", b, h)
	for _, n := range []int{65536, 65537, 65536 + 20, 65536 + 60, 131071, 131072 + 60, 200000} {
		long := make([]byte, n)
		copy(long, b)
		for _, told := range []int{n, 65535, 0, 20, 60} {
			long[2], long[3] = byte(told>>8), byte(told)
			mend(long)
			wantDrop(t, "beyond MaxPacket", long, api.DrLength)
		}
	}
}

// P2.2, DrSum: of all checks just one is right, 0 and ffff not being the same.
func TestParseSum(t *testing.T) {
	zero := full()
	zero.Number += 0x9b88
	bare := api.Head{Number: 0xbaeb}
	for _, h := range []api.Head{{}, full(), zero, bare, headWith(7, 40, 1)} {
		b := put(t, h)
		right := int(slowCheck(b[:20+len(h.Options)]))
		for check := range 65536 {
			b[10], b[11] = byte(check>>8), byte(check)
			if check == right {
				wantHead(t, "the check", b, h)
			} else {
				wantDrop(t, "another check", b, api.DrSum)
			}
		}
	}
	if b := put(t, zero); b[10] != 0 || b[11] != 0 {
		t.Errorf("the check of a head whose words' sum is ffff: %x", b[10:12])
	}
	if b := put(t, bare); b[10] != 0 || b[11] != 0 {
		t.Errorf("the check of a bare head whose words' sum is ffff: %x", b[10:12])
	}
}

// P2.2, DrSum: options are summed up, what the head bears is not.
func TestParseSumOfHead(t *testing.T) {
	for options := 0; options <= 40; options += 4 {
		h := headWith(uint64(options)+8, options, 9)
		b := put(t, h)
		for i := 20; i < 20+options; i++ {
			b[i] ^= 1
			wantDrop(t, "an option's byte", b, api.DrSum)
			b[i] ^= 1
		}
		for i := range h.Payload {
			b[20+options+i] ^= 0x41
			h.Payload[i] ^= 0x41
			wantHead(t, "a byte that is borne", b, h)
		}
	}
}

// P2.2, DrFragment: of all Flags just 0 and DontFragment are a head's.
func TestParseFragment(t *testing.T) {
	h := full()
	b := fullBytes()
	for f := range 65536 {
		b[6], b[7] = byte(f>>8), byte(f)
		mend(b)
		if f == 0 || f == 0x4000 {
			h.Flags = uint16(f)
			wantHead(t, "a whole", b, h)
		} else {
			wantDrop(t, "a part", b, api.DrFragment)
		}
	}
}

// faulty is 31 bytes with those faults: bit 0 is DrShort's, bit 5 DrFragment's.
// high takes more words than there are, where else there are too few.
func faulty(faults int, high bool) []byte {
	b := fullBytes()
	if faults>>5&1 == 1 {
		b[6] |= 0x20
	}
	if faults>>3&1 == 1 {
		b[3]++
	}
	mend(b)
	if faults>>4&1 == 1 {
		b[11] ^= 1
	}
	if faults>>2&1 == 1 && high {
		b[0] = b[0]&0xf0 | 8
	} else if faults>>2&1 == 1 {
		b[0] = b[0]&0xf0 | 4
	}
	if faults>>1&1 == 1 {
		b[0] = b[0]&0x0f | 0x60
	}
	if faults&1 == 1 {
		b = b[:19]
	}
	return b
}

// P2.2 and R2: of several reasons the first, in the table's order.
func TestParseOrder(t *testing.T) {
	reasons := []uint8{api.DrShort, api.DrVersion, api.DrHead, api.DrLength, api.DrSum, api.DrFragment}
	wantHead(t, "no fault", faulty(0, false), full())
	for faults := 1; faults < 64; faults++ {
		first := 0
		for faults>>first&1 == 0 {
			first++
		}
		wantDrop(t, "several faults", faulty(faults, false), reasons[first])
		wantDrop(t, "several faults", faulty(faults, true), reasons[first])
	}
	for n := 20; n < 100; n++ {
		wantDrop(t, "zeros", make([]byte, n), api.DrVersion)
		wantDrop(t, "ones", bytes.Repeat([]byte{0xff}, n), api.DrVersion)
	}
}

// P2.3: what is put is parsed.
func TestPutIsParsed(t *testing.T) {
	for seed := range 400 {
		h := headWith(uint64(seed), seed%11*4, seed*7%97)
		wantHead(t, "what is put", put(t, h), h)
	}
	for options := 0; options <= 40; options += 4 {
		h := headWith(uint64(options), options, api.MaxPacket-20-options)
		wantHead(t, "MaxPacket bytes", put(t, h), h)
	}
}

// P2.3: what is parsed has just those bytes, however they came to be.
func TestParsedHasItsBytes(t *testing.T) {
	parsed := 0
	for seed := range 4000 {
		b := stream(uint64(seed), 20+seed%60)
		b[0] = 0x40 | b[0]&15
		b[2], b[3] = 0, byte(len(b))
		b[6], b[7] = b[6]&0x40, 0
		if seed%3 > 0 {
			mend(b)
		}
		if seed%3 == 2 {
			b[10], b[11] = ^b[10]&b[11], b[11]|b[10]
		}
		h, drop := Parse(b)
		if drop != api.DrNone {
			continue
		}
		parsed++
		if again, ok := Put(h); !ok || !bytes.Equal(again, b) {
			t.Errorf("%x is put as %x", b, again)
		}
		if !Right(h) || Size(h) != len(b) {
			t.Errorf("%x: right %v, size %d", b, Right(h), Size(h))
		}
	}
	if parsed < 100 {
		t.Errorf("%d were parsed", parsed)
	}
}

// P2.3: with one byte more, or one fewer, it is none.
func TestOneByteMoreOrFewer(t *testing.T) {
	for options := 0; options <= 40; options += 4 {
		for payload := range 5 {
			b := put(t, headWith(uint64(options+payload), options, payload))
			for more := range 256 {
				if _, drop := Parse(append(slices.Clone(b), byte(more))); drop != api.DrLength {
					t.Errorf("%x and %x: reason %d", b, more, drop)
				}
			}
			want := api.DrLength
			if payload == 0 {
				want = api.DrHead
			}
			if len(b) == 20 {
				want = api.DrShort
			}
			wantDrop(t, "one byte fewer", b[:len(b)-1], want)
		}
	}
	b := put(t, headWith(9, 0, api.MaxPacket-20))
	wantDrop(t, "one byte more than MaxPacket", append(slices.Clone(b), 0), api.DrLength)
	wantDrop(t, "one byte fewer than MaxPacket", b[:len(b)-1], api.DrLength)
}

// P2.3: with one byte of the head behind the first one changed, to whatever,
// it is none.
func TestOneByteChanged(t *testing.T) {
	zero := full()
	zero.Number += 0x9b88
	for _, h := range []api.Head{{}, full(), zero, {Number: 0xbaeb}, {Src: 0xffffffff, Dst: 0xffffffff}, headWith(10, 4, 0), headWith(11, 40, 40)} {
		b := put(t, h)
		for at := 1; at < 20+len(h.Options); at++ {
			was := b[at]
			for v := range 256 {
				if b[at] = byte(v); b[at] == was {
					continue
				}
				want := api.DrSum
				if at == 2 || at == 3 {
					want = api.DrLength
				}
				wantDrop(t, "one byte changed", b, want)
			}
			b[at] = was
		}
		wantHead(t, "changed back", b, h)
	}
}

// R3: the same arguments, the same answers, whatever was called between.
func TestSameAnswers(t *testing.T) {
	first := put(t, full())
	Put(api.Head{Flags: 1})
	Parse(nil)
	Parse(first[:30])
	if !bytes.Equal(put(t, full()), first) {
		t.Error("Put")
	}
	wantHead(t, "again", first, full())
	wantHead(t, "again", first, full())
}
