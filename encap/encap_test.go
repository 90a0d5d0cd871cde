package encap

import (
	"bytes"
	"math"
	"slices"
	"testing"

	"handfast/api"
)

// all are the nodes that may be, as the chapter tells them, each with its
// address.
var all = []struct {
	n    api.Node
	addr uint32
}{
	{api.Node{Kind: 1, Id: 0}, 0x0a000100},
	{api.Node{Kind: 1, Id: 1}, 0x0a000101},
	{api.Node{Kind: 1, Id: 2}, 0x0a000102},
	{api.Node{Kind: 2, Id: 0}, 0x0a000200},
	{api.Node{Kind: 2, Id: 1}, 0x0a000201},
	{api.Node{Kind: 2, Id: 2}, 0x0a000202},
	{api.Node{Kind: 2, Id: 3}, 0x0a000203},
	{api.Node{Kind: 2, Id: 4}, 0x0a000204},
	{api.Node{Kind: 2, Id: 5}, 0x0a000205},
	{api.Node{Kind: 3, Id: 0}, 0x0a000300},
}

const (
	more = 36                   // by how much what is wrapped is longer than Inner
	most = api.MaxPacket - more // the most bytes that Inner may have
)

// example goes from mux 0 to backend 3; exampleHead is worked out by hand, for
// 40 bytes borne.
var (
	example = api.Wrap{
		From:   api.Node{Kind: api.NoMux, Id: 0},
		To:     api.Node{Kind: api.NoBackend, Id: 3},
		Option: api.Option{Kind: api.KiChained, Bucket: 3, Cur: 1, Prev: -1, Gen: 258, Tick: 5},
		Inner:  stream(1, 40),
	}
	exampleHead = []byte{
		0x49, 0, 0, 76, 0, 0, 0, 0, 64, 4, 0xbc, 0x92, 10, 0, 1, 0, 10, 0, 2, 3,
		158, 16, 2, 3, 1, 255, 0, 0, 1, 2, 0, 0, 0, 0, 0, 5,
	}
)

// least and most of each number of an option, and one with another value in each
// byte.
var options = []api.Option{
	{Kind: 1, Cur: -1, Prev: -1},
	{Kind: 5, Bucket: 15, Cur: 5, Prev: 5, Gen: 1<<31 - 1, Tick: 1 << 40},
	{Kind: 4, Bucket: 11, Cur: 2, Prev: 3, Gen: 0x01234567, Tick: 0x0089abcdef},
}

// Numbers about the Ids, and about those at which an Id is narrowed.
var idsToTry = []int{
	-1, -2, -3, 6, 7, 127, 128, 254, 255, 256, 257, 258, 259, 261, 512, 515, -255, -256, -257, 65535, 65536, 65537,
	1<<31 - 1, 1 << 31, 1<<32 - 1, 1 << 32, 1<<32 + 1, 1<<32 + 2, -1 << 32, 2 - 1<<32, math.MinInt, math.MinInt + 1, math.MaxInt,
}

// stream gives the same bytes for the same seed, on every run.
func stream(seed uint64, n int) []byte {
	b := make([]byte, n)
	for i := range b {
		seed = seed*6364136223846793005 + 1442695040888963407
		b[i] = byte(seed >> 56)
	}
	return b
}

// mayBeNode asks by the chapter's words whether n may be: another way than by
// a list.
func mayBeNode(n api.Node) bool {
	switch n.Kind {
	case 1:
		return n.Id >= 0 && n.Id <= 2
	case 2:
		return n.Id >= 0 && n.Id <= 5
	case 3:
		return n.Id == 0
	}
	return false
}

// mendHead lays the right check into the head of n bytes that b begins with. No
// head is all 0, so that a sum of 0 stands for ffff.
func mendHead(b []byte, n int) {
	total := 0
	b[10], b[11] = 0, 0
	for i, v := range b[:n] {
		total += int(v) << (8 * (1 - i%2))
	}
	if total %= 65535; total == 0 {
		total = 65535
	}
	b[10], b[11] = byte(^total>>8), byte(^total)
}

// slowPut lays out byte by byte what is wrapped and may be: another way than
// Put's.
func slowPut(w api.Wrap) []byte {
	n, o := more+len(w.Inner), w.Option
	b := []byte{
		0x49, 0, byte(n >> 8), byte(n), 0, 0, 0, 0, 64, 4, 0, 0,
		10, 0, w.From.Kind, byte(w.From.Id), 10, 0, w.To.Kind, byte(w.To.Id),
		158, 16, o.Kind, o.Bucket, byte(o.Cur), byte(o.Prev), // -1 is 255 so
		byte(o.Gen >> 24), byte(o.Gen >> 16), byte(o.Gen >> 8), byte(o.Gen),
		byte(o.Tick >> 40), byte(o.Tick >> 32), byte(o.Tick >> 24), byte(o.Tick >> 16), byte(o.Tick >> 8), byte(o.Tick),
	}
	mendHead(b, more)
	return append(b, w.Inner...)
}

// slowTake reads byte by byte what has the bytes b, whose check is right, and
// asks by the chapters' words whether it may be: another way than Take's.
func slowTake(b []byte) (api.Wrap, bool) {
	if len(b) < more || len(b) > 65535 || int(b[2])*256+int(b[3]) != len(b) {
		return api.Wrap{}, false
	}
	if !bytes.Equal(b[:2], []byte{0x49, 0}) || !bytes.Equal(b[4:10], []byte{0, 0, 0, 0, 64, 4}) {
		return api.Wrap{}, false
	}
	if b[12] != 10 || b[13] != 0 || b[16] != 10 || b[17] != 0 || b[20] != 158 || b[21] != 16 {
		return api.Wrap{}, false
	}
	from, to := api.Node{Kind: b[14], Id: int(b[15])}, api.Node{Kind: b[18], Id: int(b[19])}
	o := api.Option{Kind: b[22], Bucket: b[23], Cur: int(b[24]), Prev: int(b[25])}
	if o.Cur == 255 {
		o.Cur = -1
	}
	if o.Prev == 255 {
		o.Prev = -1
	}
	for _, v := range b[26:30] {
		o.Gen = o.Gen*256 + int(v)
	}
	for _, v := range b[30:36] {
		o.Tick = o.Tick*256 + int(v)
	}
	if o.Kind < 1 || o.Kind > 5 || o.Bucket > 15 || o.Cur > 5 || o.Prev > 5 || o.Gen > 1<<31-1 || o.Tick > 1<<40 {
		return api.Wrap{}, false
	}
	return api.Wrap{From: from, To: to, Option: o, Inner: slices.Clone(b[36:])}, mayBeNode(from) && mayBeNode(to)
}

// equal asks whether a and b are the same in all: another way than Same's.
func equal(a, b api.Wrap) bool {
	return a.From == b.From && a.To == b.To && a.Option == b.Option && string(a.Inner) == string(b.Inner)
}

// wantPut asks of w, which may be, that it is put as its bytes, and taken from
// them.
func wantPut(t *testing.T, what string, w api.Wrap) {
	t.Helper()
	want := slowPut(w)
	if b, drop := Put(w); drop != api.DrNone || !bytes.Equal(b, want) {
		t.Errorf("%s: Put(%v) = %x, reason %d, not %x", what, head(w), b[:min(len(b), more)], drop, want[:more])
	}
	if again, drop := Take(want); drop != api.DrNone || !equal(again, w) {
		t.Errorf("%s: Take(%x) = %v, reason %d, not %v", what, want[:more], head(again), drop, head(w))
	}
}

// head is w with 40 bytes of Inner at most, to be told.
func head(w api.Wrap) api.Wrap {
	w.Inner = w.Inner[:min(len(w.Inner), 40)]
	return w
}

// wantNotPut asks that w is not put, for that reason, and nothing told beside it.
func wantNotPut(t *testing.T, what string, w api.Wrap, want uint8) {
	t.Helper()
	if b, drop := Put(w); drop != want || len(b) != 0 {
		t.Errorf("%s: Put(%v), %d bytes, = %d bytes, reason %d, not %d", what, head(w), len(w.Inner), len(b), drop, want)
	}
}

// wantNotTaken asks that b is taken for nothing, and nothing is told beside the
// reason.
func wantNotTaken(t *testing.T, what string, b []byte) {
	t.Helper()
	if w, drop := Take(b); drop != api.DrOption || !equal(w, api.Wrap{}) {
		t.Errorf("%s: %d bytes, %x: %v, reason %d", what, len(b), b[:min(len(b), 40)], head(w), drop)
	}
}

// wantTaken asks of b, whose check is right, that it is taken just if something
// has these bytes, and as what has them.
func wantTaken(t *testing.T, what string, b []byte) {
	t.Helper()
	want, ok := slowTake(b)
	if !ok {
		wantNotTaken(t, what, b)
		return
	}
	if w, drop := Take(b); drop != api.DrNone || !equal(w, want) {
		t.Errorf("%s: %x: %v, reason %d, not %v", what, b[:more], head(w), drop, head(want))
	}
	if again, drop := Put(want); drop != api.DrNone || !bytes.Equal(again, b) {
		t.Errorf("%s: %x: put as %x, reason %d", what, b[:more], again[:min(len(again), more)], drop)
	}
}

// P7.1 and P7.2: the chapter's examples.
func TestExample(t *testing.T) {
	if addr, ok := Addr(api.Node{Kind: api.NoBackend, Id: 3}); !ok || addr != 10<<24+2<<8+3 {
		t.Errorf("%x, %v", addr, ok)
	}
	want := append(slices.Clone(exampleHead), example.Inner...)
	b, drop := Put(example)
	if drop != api.DrNone || len(b) != 76 || !bytes.Equal(b, want) {
		t.Errorf("%x, reason %d", b, drop)
	}
	if w, drop := Take(want); drop != api.DrNone || !equal(w, example) {
		t.Errorf("%v, reason %d", w, drop)
	}
}

// P7.1: each node's address, each address's node, all nodes in order.
func TestNodes(t *testing.T) {
	l := Nodes()
	if len(l) != len(all) {
		t.Fatalf("%v", l)
	}
	for i, c := range all {
		if l[i] != c.n {
			t.Errorf("%d: %v, not %v", i, l[i], c.n)
		}
		if addr, ok := Addr(c.n); !ok || addr != c.addr {
			t.Errorf("Addr(%v) = %x, %v, not %x", c.n, addr, ok, c.addr)
		}
		if n, ok := Node(c.addr); !ok || n != c.n {
			t.Errorf("Node(%x) = %v, %v, not %v", c.addr, n, ok, c.n)
		}
	}
	if api.MaxMuxes != 3 || api.MaxBackends != 6 || api.NoMux != 1 || api.NoBackend != 2 || api.NoSteer != 3 {
		t.Error("the limits' numbers")
	}
}

// P7.1 and R1, Addr: all kinds, with Ids at their limits, beyond them, and such
// as look right once they are narrowed.
func TestAddrOfAny(t *testing.T) {
	for kind := range 256 {
		ids := slices.Clone(idsToTry)
		for id := range 20 {
			ids = append(ids, id)
		}
		for _, id := range ids {
			n := api.Node{Kind: uint8(kind), Id: id}
			want, may := uint32(0), mayBeNode(n)
			if may {
				want = 0x0a000000 + uint32(kind*256+id)
			}
			if addr, ok := Addr(n); ok != may || addr != want {
				t.Errorf("Addr(%v) = %x, %v, not %x", n, addr, ok, want)
			}
		}
	}
}

// wantNobody asks that this is nobody's address, if it is none of all.
func wantNobody(t *testing.T, addr uint32) {
	t.Helper()
	for _, c := range all {
		if c.addr == addr {
			return
		}
	}
	if n, ok := Node(addr); ok || n != (api.Node{}) {
		t.Errorf("Node(%x) = %v, %v", addr, n, ok)
	}
}

// P7.1, Node: no other address is anybody's, not one that differs in a bit, or
// in its upper bytes.
func TestNodeOfAny(t *testing.T) {
	for low := range uint32(1 << 16) {
		if low>>8 < 6 || low%251 == 0 {
			wantNobody(t, 0x0a000000+low)
		}
	}
	for _, addr := range []uint32{0, 1, 0x100, 0x203, 10, 0x0a000000, 0x09ffffff, 0x0affffff, 0x7fffffff, 0x80000000, 0xffffffff} {
		wantNobody(t, addr)
	}
	for _, c := range all {
		for bit := range 32 {
			wantNobody(t, c.addr^1<<bit)
		}
		for upper := range uint32(256) {
			wantNobody(t, c.addr&0x00ffffff|upper<<24)
			wantNobody(t, c.addr&0xff00ffff|upper<<16)
			wantNobody(t, c.addr&0xffff00ff|upper<<8)
		}
		wantNobody(t, c.addr<<24|c.addr>>24|c.addr>>8&0xff00|c.addr<<8&0xff0000)
	}
}

// P7.1 and R4: the nodes are told in memory of their own.
func TestNodesMemory(t *testing.T) {
	first, second := Nodes(), Nodes()
	clear(first[:cap(first)])
	_ = append(first[:0], api.Node{Kind: 9, Id: 9})
	for i, l := range [][]api.Node{second, Nodes()} {
		for j, c := range all {
			if l[j] != c.n {
				t.Errorf("%d: node %d is %v", i, j, l[j])
			}
		}
	}
	if addr, ok := Addr(api.Node{Kind: 1}); !ok || addr != 0x0a000100 {
		t.Errorf("%x, %v", addr, ok)
	}
}

// P7.1, Same: those that differ in one part alone are not the same, whichever.
func TestSame(t *testing.T) {
	one := func() api.Wrap { return Own(example) }
	for i, turn := range []func(w *api.Wrap){
		func(w *api.Wrap) { w.From.Kind++ },
		func(w *api.Wrap) { w.From.Id = 1 },
		func(w *api.Wrap) { w.To.Kind-- },
		func(w *api.Wrap) { w.To.Id += 256 },
		func(w *api.Wrap) { w.From, w.To = w.To, w.From },
		func(w *api.Wrap) { w.Option.Kind++ },
		func(w *api.Wrap) { w.Option.Bucket++ },
		func(w *api.Wrap) { w.Option.Cur++ },
		func(w *api.Wrap) { w.Option.Prev = 255 },
		func(w *api.Wrap) { w.Option.Gen += 1 << 32 },
		func(w *api.Wrap) { w.Option.Tick += 1 << 48 },
		func(w *api.Wrap) { w.Option = api.Option{} },
		func(w *api.Wrap) { w.Inner[0]++ },
		func(w *api.Wrap) { w.Inner[39] ^= 128 },
		func(w *api.Wrap) { w.Inner = w.Inner[:39] },
		func(w *api.Wrap) { w.Inner = append(w.Inner, 0) },
		func(w *api.Wrap) { w.Inner = nil },
	} {
		a, b := one(), one()
		turn(&b)
		if Same(a, b) || Same(b, a) {
			t.Errorf("%d: the same", i)
		}
		if !Same(b, b) || !Same(b, Own(b)) {
			t.Errorf("%d: not the same as itself", i)
		}
	}
	if !Same(one(), one()) || !Same(api.Wrap{}, api.Wrap{}) {
		t.Error("not the same")
	}
	if !Same(api.Wrap{}, api.Wrap{Inner: []byte{}}) || !Same(api.Wrap{Inner: []byte{}}, api.Wrap{}) {
		t.Error("nil and empty are not the same")
	}
}

// P7.1 and R4, Own: the same in all, in memory of its own, of what may not be as
// well.
func TestOwn(t *testing.T) {
	wild := api.Wrap{
		From:   api.Node{Kind: 200, Id: -7},
		To:     api.Node{Kind: 0, Id: math.MaxInt},
		Option: api.Option{Kind: 9, Bucket: 99, Cur: -8, Prev: 77, Gen: -1, Tick: math.MinInt},
		Inner:  stream(3, 100000),
	}
	for i, w := range []api.Wrap{{}, {Inner: []byte{}}, example, wild} {
		want := slices.Clone(w.Inner)
		room := append(slices.Clone(w.Inner), 1, 2, 3)
		w.Inner = room[:len(want)]
		first, second := Own(w), Own(w)
		if !equal(first, w) {
			t.Errorf("%d: another one", i)
		}
		clear(first.Inner[:cap(first.Inner)])
		if !bytes.Equal(second.Inner, want) || !bytes.Equal(room, append(slices.Clone(want), 1, 2, 3)) {
			t.Errorf("%d: memory is shared", i)
		}
		clear(room)
		if !bytes.Equal(second.Inner, want) {
			t.Errorf("%d: memory is shared with what was handed in", i)
		}
	}
}

// P7.2: byte for byte, of all pairs of nodes, from one to itself as well, with
// options at their limits, whatever is borne: it need be no packet.
func TestPut(t *testing.T) {
	for i, from := range all {
		for j, to := range all {
			for k, o := range options {
				for _, inner := range [][]byte{nil, {}, {0}, stream(uint64(i*j+k), i+j), slowPut(example)} {
					wantPut(t, "a pair", api.Wrap{From: from.n, To: to.n, Option: o, Inner: inner})
				}
			}
		}
	}
	for n := range 300 {
		w := example
		for _, w.Inner = range [][]byte{stream(uint64(n), n), make([]byte, n), bytes.Repeat([]byte{255}, n)} {
			wantPut(t, "some bytes", w)
		}
	}
}

// P7.2: each kind, bucket, owner, and the one ahead of it.
func TestPutOptions(t *testing.T) {
	for kind := 1; kind <= 5; kind++ {
		for bucket := range 16 {
			for cur := -1; cur <= 5; cur++ {
				for prev := -1; prev <= 5; prev++ {
					w := example
					w.Option = api.Option{Kind: uint8(kind), Bucket: uint8(bucket), Cur: cur, Prev: prev, Gen: 1 << (kind * 6), Tick: 1 << (bucket * 2)}
					wantPut(t, "an option", w)
				}
			}
		}
	}
}

// wrongs make of what may be what may not, each in one part.
var wrongs = []func(w *api.Wrap){
	func(w *api.Wrap) { w.From = api.Node{} },
	func(w *api.Wrap) { w.From = api.Node{Kind: 4} },
	func(w *api.Wrap) { w.From = api.Node{Kind: api.NoMux, Id: 3} },
	func(w *api.Wrap) { w.From = api.Node{Kind: api.NoMux, Id: -1} },
	func(w *api.Wrap) { w.From = api.Node{Kind: api.NoSteer, Id: 1} },
	func(w *api.Wrap) { w.To = api.Node{} },
	func(w *api.Wrap) { w.To = api.Node{Kind: api.NoBackend, Id: 6} },
	func(w *api.Wrap) { w.To = api.Node{Kind: api.NoBackend, Id: -1} },
	func(w *api.Wrap) { w.To = api.Node{Kind: api.NoBackend, Id: 256} },
	func(w *api.Wrap) { w.To = api.Node{Kind: 255} },
	func(w *api.Wrap) { w.Option = api.Option{} },
	func(w *api.Wrap) { w.Option.Kind = 0 },
	func(w *api.Wrap) { w.Option.Kind = 6 },
	func(w *api.Wrap) { w.Option.Bucket = 16 },
	func(w *api.Wrap) { w.Option.Cur = -2 },
	func(w *api.Wrap) { w.Option.Cur = 6 },
	func(w *api.Wrap) { w.Option.Prev = 255 },
	func(w *api.Wrap) { w.Option.Gen = -1 },
	func(w *api.Wrap) { w.Option.Gen = 1 << 31 },
	func(w *api.Wrap) { w.Option.Tick = -1 },
	func(w *api.Wrap) { w.Option.Tick = 1<<40 + 1 },
}

// P7.2 and R2, DrOption: each part that may not be, alone, two at once, and
// ahead of DrLong.
func TestPutOption(t *testing.T) {
	wantNotPut(t, "nothing", api.Wrap{}, api.DrOption)
	for i, wrong := range wrongs {
		for _, inner := range [][]byte{nil, example.Inner, make([]byte, most), make([]byte, most+1), make([]byte, 200000)} {
			w := example
			w.Inner = inner
			wrong(&w)
			wantNotPut(t, "one part", w, api.DrOption)
			wrongs[(i+7)%len(wrongs)](&w)
			wantNotPut(t, "two parts", w, api.DrOption)
		}
	}
	for kind := range 256 {
		for _, id := range idsToTry {
			w := example
			w.From = api.Node{Kind: uint8(kind), Id: id}
			wantNotPut(t, "from", w, api.DrOption)
			w = example
			w.To = api.Node{Kind: uint8(kind), Id: id}
			wantNotPut(t, "to", w, api.DrOption)
		}
	}
	if api.DrOption != 13 || api.DrLong != 12 || api.DrNone != 0 {
		t.Error("the reasons' numbers")
	}
}

// P7.2, DrLong: as many bytes as there may be, one fewer, one more, and numbers
// at which 16 bits of a length end.
func TestPutLong(t *testing.T) {
	for _, n := range []int{1460, 32768, 65000, most - 1, most} {
		w := example
		w.Inner = stream(uint64(n), n)
		wantPut(t, "a long one", w)
		if b, _ := Put(w); len(b) != n+36 {
			t.Errorf("%d bytes: %d", n, len(b))
		}
	}
	for _, n := range []int{most + 1, most + 2, 65535 - 20, 65535 - 16, 65535, 65536, 65536 + 4, 65536 + 40, 131072 - 36, 131072, 300000} {
		for _, o := range options {
			wantNotPut(t, "too long", api.Wrap{From: example.From, To: example.To, Option: o, Inner: stream(1, n)}, api.DrLong)
		}
	}
}

// P7.2, Take: bytes of which there are fewer, or more, or that are another
// head's, are nothing's, whatever they are.
func TestTakeNothing(t *testing.T) {
	right := slowPut(example)
	wantNotTaken(t, "nil", nil)
	wantNotTaken(t, "empty", []byte{})
	for n := range right {
		wantNotTaken(t, "the beginning", right[:n])
		wantNotTaken(t, "the end", right[len(right)-n:])
		b := slices.Clone(right[:n])
		if n >= 20 {
			b[2], b[3] = 0, byte(n)
			mendHead(b, min(n, more))
			wantTaken(t, "the beginning, its length mended", b)
		}
	}
	for _, n := range []int{1, 2, 4, 16, 36, 256, 65535 - 76, 65536 - 76, 65536, 300000} {
		wantNotTaken(t, "more", append(slices.Clone(right), make([]byte, n)...))
		wantNotTaken(t, "more", append(slices.Clone(right), stream(uint64(n), n)...))
		wantNotTaken(t, "zeros", make([]byte, n))
		wantNotTaken(t, "any bytes", stream(uint64(n), n))
	}
	wantNotTaken(t, "what is wrapped alone", example.Inner)
}

// P7.2, Take: as many bytes as there may be, and more than two bytes can tell.
func TestTakeLong(t *testing.T) {
	w := example
	w.Inner = stream(9, most+1)
	b := slowPut(w)
	if b[2] != 0 || b[3] != 0 {
		t.Fatalf("%x", b[:more])
	}
	wantNotTaken(t, "one more than there may be", b)
	w.Inner = stream(9, 65536+40)
	b = slowPut(w)
	wantNotTaken(t, "a length that tells 76", b)
	wantTaken(t, "those that the length tells", b[:76])
}

// P7.2, Take: a head of other numbers, of other options, whose check is right,
// is nothing's.
func TestTakeOtherHeads(t *testing.T) {
	for _, words := range []int{5, 6, 7, 8, 9, 10, 11, 15} {
		b := append(slowPut(example)[:more], make([]byte, 24)...)[:words*4]
		b = append(b, example.Inner...)
		b[0], b[3] = byte(0x40+words), byte(len(b))
		mendHead(b, words*4)
		wantTaken(t, "options of another length", b)
	}
	for at := range more {
		if at == 10 || at == 11 {
			continue
		}
		for v := range 256 {
			b := slowPut(example)
			b[at] = byte(v)
			mendHead(b, more)
			wantTaken(t, "another byte", b)
		}
	}
	for v := range 1 << 16 {
		b := slowPut(example)
		b[6], b[7] = byte(v>>8), byte(v)
		mendHead(b, more)
		wantTaken(t, "other flags", b)
	}
}

// P7.2, Take: a check that is not right, ffff in the place of 0 as well.
func TestTakeCheck(t *testing.T) {
	for at := range more {
		for bit := range 8 {
			b := slowPut(example)
			b[at] ^= 1 << bit
			wantNotTaken(t, "a bit turned", b)
		}
	}
	for v := range 1 << 16 {
		b := slowPut(example)
		b[10], b[11] = byte(v>>8), byte(v)
		if v != 0xbc92 {
			wantNotTaken(t, "another check", b)
		}
	}
	w := example
	w.Option.Gen = 0xbc92 + 258 // what makes the check 0
	b := slowPut(w)
	if b[10] != 0 || b[11] != 0 {
		t.Fatalf("check %x", b[10:12])
	}
	wantPut(t, "a check of 0", w)
	b[10], b[11] = 255, 255
	wantNotTaken(t, "a check of ffff", b)
}

// P7.2, Take: addresses of all kinds and Ids that a byte holds, and of other
// networks.
func TestTakeAddresses(t *testing.T) {
	for _, at := range []int{12, 16} {
		for kind := range 6 {
			for id := range 256 {
				b := slowPut(example)
				b[at+2], b[at+3] = byte(kind), byte(id)
				mendHead(b, more)
				wantTaken(t, "another address", b)
			}
		}
		b := slowPut(example)
		clear(b[at : at+4])
		mendHead(b, more)
		wantTaken(t, "no address", b)
	}
	for _, c := range all {
		for _, d := range all {
			b := slowPut(example)
			b[14], b[15], b[18], b[19] = c.n.Kind, byte(c.n.Id), d.n.Kind, byte(d.n.Id)
			mendHead(b, more)
			wantTaken(t, "two addresses", b)
		}
	}
}

// P7.2 and R4: bytes, and what is borne, lie in memory of their own; what is
// handed in, and what lies behind it, stays, and isn't read.
func TestMemory(t *testing.T) {
	for _, n := range []int{0, 1, 40, 41} {
		room := stream(uint64(n), n+9)
		was := slices.Clone(room)
		w := example
		w.Inner = room[:n]
		want := slowPut(w)
		first, drop := Put(w)
		second, _ := Put(w)
		if drop != api.DrNone {
			t.Fatalf("reason %d", drop)
		}
		clear(first[:cap(first)])
		if !bytes.Equal(second, want) || !bytes.Equal(room, was) {
			t.Errorf("%d: what is put shares memory", n)
		}
		clear(room)
		if !bytes.Equal(second, want) {
			t.Errorf("%d: what is put shares memory with what was handed in", n)
		}
		room = append(slices.Clone(want), stream(1, 9)...)
		was = slices.Clone(room)
		taken, drop := Take(room[:len(want)])
		other, _ := Take(room[:len(want)])
		if drop != api.DrNone {
			t.Fatalf("reason %d", drop)
		}
		clear(taken.Inner[:cap(taken.Inner)])
		if !bytes.Equal(other.Inner, want[more:]) || !bytes.Equal(room, was) {
			t.Errorf("%d: what is taken shares memory", n)
		}
		wantNotTaken(t, "one fewer, with room behind it", room[:len(want)-1])
		wantNotTaken(t, "with the room behind it", room)
		clear(room)
		if !bytes.Equal(other.Inner, want[more:]) {
			t.Errorf("%d: what is taken shares memory with what was handed in", n)
		}
	}
}

// P7.3: what is put is taken, byte for byte.
func TestPutIsTaken(t *testing.T) {
	for seed := range 3000 {
		s := stream(uint64(seed), 24)
		w := api.Wrap{From: all[s[0]%10].n, To: all[s[1]%10].n, Inner: stream(uint64(seed)+1, seed%97)}
		w.Option = api.Option{Kind: s[2]%5 + 1, Bucket: s[3] % 16, Cur: int(s[4])%7 - 1, Prev: int(s[5])%7 - 1}
		for i := range 5 {
			w.Option.Gen = w.Option.Gen<<8&(1<<31-1) | int(s[6+i])
			w.Option.Tick = w.Option.Tick<<8&(1<<40-1) | int(s[12+i])
		}
		wantPut(t, "many", w)
		b, _ := Put(w)
		if again, drop := Take(b); drop != api.DrNone || !Same(again, w) {
			t.Errorf("%v: %v, reason %d", w, again, drop)
		}
	}
}

// P7.3: what is taken has just those bytes: of whatever bytes, those that are
// taken are those that are put.
func TestTakenHasItsBytes(t *testing.T) {
	taken := 0
	for seed := range 30000 {
		s := stream(uint64(seed), 8)
		b := slowPut(example)
		for i := range int(s[0]) % 4 {
			b[s[1+i]%36] = s[4+i] % 7
		}
		if s[7]%8 > 0 {
			b[0], b[2], b[3] = 0x49, 0, 76
			mendHead(b, more)
		}
		w, drop := Take(b)
		if drop != api.DrNone {
			wantNotTaken(t, "many", b)
			continue
		}
		taken++
		wantTaken(t, "many", b)
		if again, drop := Put(w); drop != api.DrNone || !bytes.Equal(again, b) {
			t.Errorf("%x: put as %x, reason %d", b, again, drop)
		}
	}
	if taken < 1000 || taken > 29000 {
		t.Errorf("%d were taken", taken)
	}
}

// P7.3: no two nodes have one address.
func TestNoAddressTwice(t *testing.T) {
	whose := map[uint32]api.Node{}
	for _, n := range Nodes() {
		addr, ok := Addr(n)
		if !ok {
			t.Errorf("%v has no address", n)
		}
		if other, there := whose[addr]; there {
			t.Errorf("%x is that of %v and %v", addr, other, n)
		}
		whose[addr] = n
		if again, ok := Node(addr); !ok || again != n {
			t.Errorf("%x: %v, %v", addr, again, ok)
		}
	}
}

// R3: the same arguments, the same answers, whatever was called between.
func TestSameAnswers(t *testing.T) {
	for range 5 {
		wantPut(t, "again", example)
		wantNotPut(t, "again", api.Wrap{}, api.DrOption)
		wantNotTaken(t, "again", exampleHead)
		wantNobody(t, 0x0a000206)
		TestNodes(t)
		w := example
		w.Inner = make([]byte, most+1)
		wantNotPut(t, "again", w, api.DrLong)
	}
}
