package mux

import (
	"bytes"
	"math"
	"runtime"
	"slices"
	"sync"
	"sync/atomic"
	"testing"

	"handfast/api"
	"handfast/client"
	"handfast/encap"
	"handfast/packet"
	"handfast/sheet"
	"handfast/table"
)

// numbers gives the same numbers below n for the same seed, on every run.
func numbers(seed uint64) func(n int) int {
	return func(n int) int {
		seed = seed*6364136223846793005 + 1442695040888963407
		return int(seed >> 33 % uint64(n))
	}
}

// bucketOf is the bucket of t, worked out from the chapter's words: another way
// than a hasher's.
func bucketOf(t api.Tuple) int {
	state := 0
	for _, c := range []uint32{
		t.Src >> 24, t.Src >> 16, t.Src >> 8, t.Src,
		t.Dst >> 24, t.Dst >> 16, t.Dst >> 8, t.Dst,
		uint32(t.SrcPort) >> 8, uint32(t.SrcPort), uint32(t.DstPort) >> 8, uint32(t.DstPort),
	} {
		turn := (167*(state^int(c&255)) + 13) % 256
		state = turn%16*16 + turn/16
	}
	return state/16 ^ state%16
}

// wrapped are the bytes of what goes from the mux id with inner to the owner of
// bucket, put down one by one: another way than encap's.
func wrapped(id, bucket int, e api.Entry, inner []byte) []byte {
	n := len(inner) + 36
	b := []byte{
		0x49, 0, byte(n >> 8), byte(n), 0, 0, 0, 0, 64, 4, 0, 0,
		10, 0, 1, byte(id), 10, 0, 2, byte(e.Cur),
		158, 16, 1, byte(bucket), byte(e.Cur), byte(e.Prev),
		byte(e.Gen >> 24), byte(e.Gen >> 16), byte(e.Gen >> 8), byte(e.Gen),
		byte(e.Tick >> 40), byte(e.Tick >> 32), byte(e.Tick >> 24), byte(e.Tick >> 16), byte(e.Tick >> 8), byte(e.Tick),
	}
	sum := 0
	for i := 0; i < len(b); i += 2 {
		sum += int(b[i])<<8 | int(b[i+1])
	}
	sum = sum>>16 + sum&0xffff
	sum = sum>>16 + sum&0xffff
	b[10], b[11] = byte(^sum>>8), byte(^sum)
	return append(b, inner...)
}

// told is what a mux tells of a packet.
type told struct {
	on   []byte
	to   int
	drop uint8
}

// tell is what was told, as one thing.
func tell(on []byte, to int, drop uint8) told { return told{on, to, drop} }

// same asks whether a and b are the same in all.
func same(a, b told) bool {
	return bytes.Equal(a.on, b.on) && a.to == b.to && a.drop == b.drop
}

// dropped is what is told of a packet that is dropped for this reason.
func dropped(drop uint8) told { return told{nil, -1, drop} }

// want is what is to be told of b at the mux id that has c: another way.
func want(c api.Client, id int, b []byte) told {
	if !c.Has || !client.Right(c) {
		return dropped(api.DrTable)
	}
	p, drop := packet.Parse(b)
	if drop != api.DrNone {
		return dropped(drop)
	}
	bucket := bucketOf(p.Tuple)
	e := c.Table.Rows[bucket]
	switch {
	case e.Cur == -1:
		return dropped(api.DrOwner)
	case id < 0 || id > 2:
		return dropped(api.DrOption)
	case len(b)+36 > 65535:
		return dropped(api.DrLong)
	}
	return told{wrapped(id, bucket, e, b), e.Cur, api.DrNone}
}

// someTuple is one of all that there are.
func someTuple(next func(int) int) api.Tuple {
	return api.Tuple{
		Src:     uint32(next(1<<30)) * 5,
		Dst:     uint32(next(1<<30)) * 7,
		SrcPort: uint16(next(1 << 16)),
		DstPort: uint16(next(1 << 16)),
	}
}

// inBucket is a tuple of that bucket.
func inBucket(bucket int, next func(int) int) api.Tuple {
	for {
		if t := someTuple(next); bucketOf(t) == bucket {
			return t
		}
	}
}

// packetOf is a packet of t, of so many bytes: 40 at least.
func packetOf(tb testing.TB, t api.Tuple, size int) []byte {
	tb.Helper()
	data := make([]byte, size-40)
	for i := range data {
		data[i] = byte(i * 7)
	}
	b, ok := packet.Make(t, api.FlSyn, data)
	if !ok || len(b) != size {
		tb.Fatalf("no packet of %d bytes", size)
	}
	return b
}

// noPackets are bytes that are none, one of each reason why not.
func noPackets(tb testing.TB) map[uint8][]byte {
	whole := packetOf(tb, api.Tuple{Src: 0x0a000001, Dst: 0x0a000002, SrcPort: 1000, DstPort: 80}, 60)
	turned := func(at int, bits byte, right bool) []byte {
		b := bytes.Clone(whole)
		b[at] ^= bits
		if right { // its head's sum follows
			sum := 0
			b[10], b[11] = 0, 0
			for i := 0; i < 20; i += 2 {
				sum += int(b[i])<<8 | int(b[i+1])
			}
			sum = sum>>16 + sum&0xffff
			b[10], b[11] = byte(^sum>>8), byte(^sum)
		}
		return b
	}
	return map[uint8][]byte{
		api.DrShort:    whole[:19],
		api.DrVersion:  turned(0, 0x20, true),
		api.DrHead:     turned(0, 1, true),
		api.DrLength:   whole[:59],
		api.DrSum:      turned(10, 1, false),
		api.DrFragment: turned(6, 0x20, true),
		api.DrProtocol: turned(9, 17^6, true),
		api.DrTcp:      turned(32, 0x10, false),
		api.DrTcpSum:   turned(59, 1, false),
	}
}

// someRows may be; each bucket of owned has an owner, the others have none.
func someRows(owned int, next func(int) int) [16]api.Entry {
	var rows [16]api.Entry
	for bucket := range rows {
		e := api.Entry{Cur: -1, Prev: -1, Gen: 1 + next(1<<30), Tick: next(1<<30) << 10}
		if owned>>bucket&1 == 1 {
			e.Cur = next(6)
			if next(2) == 1 {
				e.Prev = (e.Cur + 1 + next(5)) % 6
			}
		}
		rows[bucket] = e
	}
	return rows
}

// someClient has a table; each bucket of owned has an owner in it.
func someClient(owned int, seed uint64) api.Client {
	next := numbers(seed)
	return api.Client{Has: true, Table: api.Table{Version: next(1 << 20), Rows: someRows(owned, next)}}
}

// someBytes are packets, of any bucket, and what is none.
func someBytes(tb testing.TB, n int, seed uint64) [][]byte {
	next := numbers(seed)
	none := noPackets(tb)
	l := make([][]byte, n)
	for i := range l {
		switch next(5) {
		case 0:
			l[i] = none[uint8(1+next(9))]
		case 1:
			l[i] = bytes.Repeat([]byte{byte(next(256))}, next(70))
		default:
			l[i] = packetOf(tb, someTuple(next), 40+next(100))
		}
	}
	return l
}

// newMux is the mux of that number.
func newMux(tb testing.TB, id int) *Mux {
	tb.Helper()
	m, e := New(id)
	if m == nil || e != api.OK {
		tb.Fatalf("New(%d): %v", id, e)
	}
	return m
}

// muxWith is the mux of that number, which has c.
func muxWith(tb testing.TB, id int, c api.Client) *Mux {
	tb.Helper()
	m := newMux(tb, id)
	s := api.Sheet{Base: -1, To: c.Table.Version}
	for bucket, e := range c.Table.Rows {
		s.Rows = append(s.Rows, api.Row{Bucket: bucket, Entry: e})
	}
	if taken, e := m.Take(s); !taken || e != api.OK {
		tb.Fatalf("a snapshot was not taken: %v", e)
	}
	return m
}

// wantDrops asks of m that each reason was counted as often as drops tells.
func wantDrops(tb testing.TB, m *Mux, drops [api.Drops]int) {
	tb.Helper()
	if got := m.Drops(); got != drops {
		tb.Fatalf("Drops: %v, not %v", got, drops)
	}
}

// atOnce has n at work at once, and waits for them. They look out for their
// beginning as they go on, as those that sleep wake one by one.
func atOnce(n int, work func(i int)) {
	var over sync.WaitGroup
	var there atomic.Int64
	for i := range n {
		over.Go(func() {
			there.Add(1)
			for there.Load() < int64(n) {
				runtime.Gosched()
			}
			work(i)
		})
	}
	over.Wait()
}

// The chapter's example; example 5 of the whole.
func TestExample(t *testing.T) {
	m := newMux(t, 1)
	b := packetOf(t, api.Tuple{Src: 0x0a000001, Dst: 0x0a000002, SrcPort: 1000, DstPort: 80}, 40)
	if got := tell(m.In(b)); !same(got, dropped(api.DrTable)) || got.on != nil {
		t.Errorf("%v", got)
	}
	wantDrops(t, m, [api.Drops]int{api.DrTable: 1})
}

// Example 2 of the whole: a SYN without data, wrapped.
func TestSynWrapped(t *testing.T) {
	b := packetOf(t, someTuple(numbers(1)), 40)
	got := tell(Forward(someClient(0xffff, 1), 0, b))
	if got.drop != api.DrNone || len(got.on) != 76 {
		t.Errorf("%v", got)
	}
}

// P14.1: a packet of each bucket, from each mux, goes to the row's Cur, with the
// row's numbers, byte for byte.
func TestForward(t *testing.T) {
	next := numbers(2)
	for n := range 20 {
		c := someClient(0xffff, uint64(n))
		for bucket := range 16 {
			for id := range 3 {
				b := packetOf(t, inBucket(bucket, next), 40+next(80))
				e := c.Table.Rows[bucket]
				got := tell(Forward(c, id, b))
				if got.drop != api.DrNone || got.to != e.Cur || !bytes.Equal(got.on, wrapped(id, bucket, e, b)) {
					t.Fatalf("bucket %d, %v: %v", bucket, e, got)
				}
				w, drop := encap.Take(got.on)
				o := api.Option{Kind: api.KiDirect, Bucket: uint8(bucket), Cur: e.Cur, Prev: e.Prev, Gen: e.Gen, Tick: e.Tick}
				from, to := api.Node{Kind: api.NoMux, Id: id}, api.Node{Kind: api.NoBackend, Id: e.Cur}
				if drop != api.DrNone || !encap.Same(w, api.Wrap{From: from, To: to, Option: o, Inner: b}) {
					t.Fatalf("wrapped is %v", w)
				}
			}
		}
	}
}

// P14.1: rows that have each number at its least, its most; each Cur with each
// Prev.
func TestForwardRows(t *testing.T) {
	next := numbers(3)
	for _, gen := range []int{0, 1, 255, 256, 1<<31 - 1} {
		for _, tick := range []int{0, 1, 1 << 32, 1 << 40} {
			for cur := -1; cur < 6; cur++ {
				for prev := -1; prev < 6; prev++ {
					if prev >= 0 && (cur == -1 || cur == prev) {
						continue
					}
					c := api.Client{Has: true, Table: table.New()}
					bucket := next(16)
					c.Table.Rows[bucket] = api.Entry{Cur: cur, Prev: prev, Gen: gen, Tick: tick}
					b := packetOf(t, inBucket(bucket, next), 44)
					if got := tell(Forward(c, 1, b)); !same(got, want(c, 1, b)) {
						t.Fatalf("%v: %v", c.Table.Rows[bucket], got)
					}
				}
			}
		}
	}
}

// P14.1: of any flags and data, and with options in its heads, a packet goes on
// byte for byte.
func TestForwardAnyPacket(t *testing.T) {
	next := numbers(4)
	c := someClient(0xffff, 4)
	for flags := range 256 {
		b, ok := packet.Make(someTuple(next), uint8(flags), bytes.Repeat([]byte{byte(flags)}, flags))
		if !ok {
			t.Fatal("no packet")
		}
		got := tell(Forward(c, 2, b))
		if !same(got, want(c, 2, b)) || got.drop != api.DrNone || !bytes.Equal(got.on[36:], b) {
			t.Errorf("flags %d: %v", flags, got)
		}
	}
	plain := packetOf(t, someTuple(next), 48)
	for kind, n := range []int{4, 8, 16, 40} {
		options := slices.Concat(plain[:20], bytes.Repeat([]byte{1}, n), plain[20:])
		options[0] += byte(n / 4)
		options[3] += byte(n)
		sum := 0
		options[10], options[11] = 0, 0
		for i := 0; i < 20+n; i += 2 {
			sum += int(options[i])<<8 | int(options[i+1])
		}
		sum = sum>>16 + sum&0xffff
		options[10], options[11] = byte(^sum>>8), byte(^sum)
		got := tell(Forward(c, 0, options))
		if !same(got, want(c, 0, options)) || got.drop != api.DrNone {
			t.Errorf("%d, %d bytes of options: %v", kind, n, got)
		}
	}
}

// wrongClients may not be, or have no table.
func wrongClients() []api.Client {
	right := someClient(0xffff, 5)
	l := []api.Client{{}, client.New(), {Has: true}, {Table: right.Table}, {Table: table.New()}}
	for _, version := range []int{-1, math.MinInt, 1<<40 + 1, math.MaxInt} {
		c := right
		c.Table.Version = version
		l = append(l, c)
	}
	for bucket := range 16 {
		for _, e := range []api.Entry{
			{},
			{Cur: 6, Prev: -1},
			{Cur: -2, Prev: -1},
			{Cur: math.MinInt, Prev: -1},
			{Cur: math.MaxInt, Prev: -1},
			{Cur: 1, Prev: 1},
			{Cur: -1, Prev: 1},
			{Cur: 1, Prev: 6},
			{Cur: 1, Prev: -2},
			{Cur: 1, Prev: -1, Gen: -1},
			{Cur: 1, Prev: -1, Gen: 1 << 31},
			{Cur: 1, Prev: -1, Tick: -1},
			{Cur: 1, Prev: -1, Tick: 1<<40 + 1},
		} {
			c := right
			c.Table.Rows[bucket] = e
			l = append(l, c)
		}
	}
	return l
}

// P14.1, R2: of a client that has no table, or may not be, all is DrTable,
// packets of each bucket, and what is none; whatever the mux's number.
func TestForwardNoTable(t *testing.T) {
	next := numbers(6)
	l := [][]byte{nil, {}, {0x45}, packetOf(t, someTuple(next), 65535)}
	for _, b := range noPackets(t) {
		l = append(l, b)
	}
	for bucket := range 16 {
		l = append(l, packetOf(t, inBucket(bucket, next), 40))
	}
	for _, c := range wrongClients() {
		for _, b := range l {
			for _, id := range []int{-1, 0, 2, 3} {
				if got := tell(Forward(c, id, b)); !same(got, dropped(api.DrTable)) || got.on != nil {
					t.Fatalf("%v, %d bytes: %v", c, len(b), got)
				}
			}
		}
	}
}

// P14.1, R2: what is no packet is dropped, and it is told why; this goes ahead
// of nobody's owning any bucket, and of a number that may not be.
func TestForwardNoPacket(t *testing.T) {
	none := noPackets(t)
	if len(none) != 9 {
		t.Fatal("not one of each reason")
	}
	for _, c := range []api.Client{someClient(0xffff, 7), someClient(0, 7)} {
		for drop, b := range none {
			if drop < api.DrShort || drop > api.DrTcpSum {
				t.Fatalf("%d", drop)
			}
			for _, id := range []int{math.MinInt, -1, 0, 1, 2, 3, math.MaxInt} {
				if got := tell(Forward(c, id, b)); !same(got, dropped(drop)) || got.on != nil {
					t.Errorf("%d at %d: %v", drop, id, got)
				}
			}
		}
		if got := tell(Forward(c, 0, nil)); !same(got, dropped(api.DrShort)) {
			t.Errorf("nil: %v", got)
		}
		if got := tell(Forward(c, 0, []byte{})); !same(got, dropped(api.DrShort)) {
			t.Errorf("no bytes: %v", got)
		}
	}
}

// P14.1: of a bucket that nobody owns all is DrOwner, whatever its length, the
// mux's number, the row's generation; of the others it is not.
func TestForwardNobodys(t *testing.T) {
	next := numbers(8)
	for bucket := range 16 {
		for _, owned := range []int{0, 0xffff &^ (1 << bucket)} {
			c := someClient(owned, uint64(bucket))
			for _, size := range []int{40, 41, 65499, 65500, 65535} {
				b := packetOf(t, inBucket(bucket, next), size)
				for _, id := range []int{-1, 0, 1, 2, 3} {
					if got := tell(Forward(c, id, b)); !same(got, dropped(api.DrOwner)) || got.on != nil {
						t.Fatalf("bucket %d, %d bytes at %d: %v", bucket, size, id, got)
					}
				}
			}
			if b := packetOf(t, inBucket((bucket+1)%16, next), 40); owned != 0 {
				if got := tell(Forward(c, 0, b)); got.drop != api.DrNone {
					t.Errorf("bucket %d is nobody's, %d is dropped: %v", bucket, (bucket+1)%16, got)
				}
			}
		}
	}
	fresh := api.Client{Has: true, Table: table.New()}
	if got := tell(Forward(fresh, 0, packetOf(t, someTuple(next), 40))); !same(got, dropped(api.DrOwner)) {
		t.Errorf("a new table: %v", got)
	}
}

// P14.1: what would be more than MaxPacket wrapped is DrLong, one byte less goes
// on; a number that may not be goes ahead of it.
func TestForwardLong(t *testing.T) {
	next := numbers(9)
	c := someClient(0xffff, 9)
	for _, size := range []int{65498, 65499, 65500, 65501, 65534, 65535} {
		b := packetOf(t, someTuple(next), size)
		got := tell(Forward(c, 1, b))
		if size <= 65499 {
			if !same(got, want(c, 1, b)) || len(got.on) != size+36 {
				t.Errorf("%d bytes: %d, %d", size, got.drop, len(got.on))
			}
			continue
		}
		if !same(got, dropped(api.DrLong)) || got.on != nil {
			t.Errorf("%d bytes: %d, to %d", size, got.drop, got.to)
		}
		if got := tell(Forward(c, 3, b)); !same(got, dropped(api.DrOption)) {
			t.Errorf("%d bytes at 3: %d", size, got.drop)
		}
	}
}

// P14.1, R1: from what is no mux nothing goes on: encap.Put tells DrOption.
func TestForwardNoMux(t *testing.T) {
	next := numbers(10)
	c := someClient(0xffff, 10)
	for _, id := range []int{-1, -2, 3, 4, 6, 255, 256, 1 << 32, -1 << 32, math.MinInt, math.MaxInt} {
		if got := tell(Forward(c, id, packetOf(t, someTuple(next), 50))); !same(got, dropped(api.DrOption)) || got.on != nil {
			t.Errorf("%d: %v", id, got)
		}
	}
}

// P14.1: any bytes, any clients, any numbers: what the words say.
func TestForwardAny(t *testing.T) {
	next := numbers(11)
	for n := range 60 {
		c := someClient(next(1<<16), uint64(n))
		for _, b := range someBytes(t, 40, uint64(n)) {
			id := next(5) - 1
			if got := tell(Forward(c, id, b)); !same(got, want(c, id, b)) {
				t.Fatalf("%v at %d: %v", b, id, got)
			}
		}
	}
}

// P14.1, R3, R4: what is handed in stays as it is, what lies behind it is not
// read; an answer is in memory of its own; the same is told again.
func TestForwardLeaves(t *testing.T) {
	c := someClient(0xffff, 12)
	m := muxWith(t, 0, c)
	ways := []func([]byte) []byte{
		func(b []byte) []byte { return tell(Forward(c, 0, b)).on },
		func(b []byte) []byte { return tell(m.In(b)).on },
		func(b []byte) []byte { return m.All(1, b)[0] },
		func(b []byte) []byte { return m.All(3, b, b, b)[2] },
	}
	for i, way := range ways {
		room := append(packetOf(t, someTuple(numbers(12)), 90), bytes.Repeat([]byte{0xaa}, 200)...)
		was := bytes.Clone(room)
		b := room[:90]
		first, again := way(b), way(b)
		right := want(c, 0, b).on
		if !bytes.Equal(first, right) || !bytes.Equal(again, right) || !bytes.Equal(room, was) {
			t.Fatalf("way %d: not the same, or what was handed in has changed", i)
		}
		clear(first[:cap(first)])
		if !bytes.Equal(again, right) || !bytes.Equal(room, was) || !bytes.Equal(way(b), right) {
			t.Fatalf("way %d: an answer is not in memory of its own", i)
		}
		clear(room)
		if !bytes.Equal(again, right) {
			t.Fatalf("way %d: an answer is in the memory of what was handed in", i)
		}
	}
}

// P14.3, R4: answers of one call share no memory, of packets that do.
func TestAllApart(t *testing.T) {
	c := someClient(0xffff, 13)
	m := muxWith(t, 1, c)
	b := packetOf(t, someTuple(numbers(13)), 60)
	l := m.All(4, b, b, b, b, b, b)
	right := want(c, 1, b).on
	for i := range l {
		if !bytes.Equal(l[i], right) {
			t.Fatalf("place %d: %v", i, l[i])
		}
		clear(l[i][:cap(l[i])])
	}
	if got := tell(m.In(b)); !bytes.Equal(got.on, right) {
		t.Error("the packet, or the mux, has changed")
	}
}

// P14.2: a mux of each number that may be, new: without a table, nothing
// counted; DrTable of whatever comes.
func TestNew(t *testing.T) {
	for id := range 3 {
		m := newMux(t, id)
		if m.Has() != -1 {
			t.Errorf("a new mux has %d", m.Has())
		}
		wantDrops(t, m, [api.Drops]int{})
		n := 0
		for _, b := range someBytes(t, 30, 14) {
			if got := tell(m.In(b)); !same(got, dropped(api.DrTable)) || got.on != nil {
				t.Errorf("%v", got)
			}
			n++
			wantDrops(t, m, [api.Drops]int{api.DrTable: n})
		}
	}
}

// P14.2, R2: a number that may not be: ErrArg, and nil.
func TestNewWrong(t *testing.T) {
	for _, id := range []int{-1, -2, 3, 4, 5, 255, 256, 257, 1 << 32, 1<<32 + 1, -1 << 32, math.MinInt, math.MaxInt} {
		if m, e := New(id); m != nil || e != api.ErrArg {
			t.Errorf("New(%d): %v, %v", id, m, e)
		}
	}
}

// P14.2, P14.3, R1: what a nil mux answers.
func TestNil(t *testing.T) {
	var m *Mux
	b := packetOf(t, someTuple(numbers(15)), 40)
	sheets := []api.Sheet{{}, {To: 1}, {Base: 5, To: 2}, shot(t, someClient(0xffff, 15).Table)}
	for _, s := range sheets {
		if taken, e := m.Take(s); taken || e != api.ErrArg {
			t.Errorf("Take: %v, %v", taken, e)
		}
	}
	if m.Has() != -1 {
		t.Errorf("Has: %d", m.Has())
	}
	for _, b := range [][]byte{nil, {}, b} {
		if got := tell(m.In(b)); !same(got, dropped(api.DrTable)) || got.on != nil {
			t.Errorf("In: %v", got)
		}
	}
	for _, workers := range manyWorkers() {
		if l := m.All(workers, b, nil, b); len(l) != 3 || l[0] != nil || l[1] != nil || l[2] != nil {
			t.Errorf("All: %v", l)
		}
		if l := m.All(workers); len(l) != 0 {
			t.Errorf("All of nothing: %v", l)
		}
	}
	if m.Drops() != [api.Drops]int{} {
		t.Errorf("Drops: %v", m.Drops())
	}
}

// R1: nobody makes a mux of all nothing; its calls end, and none panics.
func TestZeroMux(t *testing.T) {
	var m Mux
	b := packetOf(t, someTuple(numbers(16)), 40)
	if m.Has() != -1 || m.Drops() != [api.Drops]int{} || !same(tell(m.In(b)), dropped(api.DrTable)) {
		t.Error("it has a table")
	}
	m.Take(shot(t, someClient(0xffff, 16).Table))
	m.In(b)
	m.All(3, b, nil, b)
}

// shot is the snapshot of a table.
func shot(tb testing.TB, x api.Table) api.Sheet {
	tb.Helper()
	s, e := sheet.Of(x)
	if e != api.OK {
		tb.Fatal("no snapshot")
	}
	return s
}

// versions are tables that go on by table.Set, one Version each, from a new one.
func versions(tb testing.TB, n int, seed uint64) []api.Table {
	tb.Helper()
	next := numbers(seed)
	l := []api.Table{table.New()}
	for len(l) < n {
		last := l[len(l)-1]
		bucket := next(16)
		if len(l) <= 16 { // each has had an owner once all have been set
			bucket = len(l) - 1
		}
		e := api.Entry{Cur: next(6), Prev: -1, Gen: last.Rows[bucket].Gen + 1 + next(3), Tick: next(1 << 20)}
		if next(8) == 0 && len(l) > 16 {
			e.Cur = -1
		}
		if next(2) == 0 && e.Cur >= 0 {
			e.Prev = (e.Cur + 1 + next(5)) % 6
		}
		x, err := table.Set(last, bucket, e)
		if err != api.OK {
			tb.Fatal("a row was not set")
		}
		l = append(l, x)
	}
	return l
}

// delta is the sheet from a to b.
func delta(tb testing.TB, a, b api.Table) api.Sheet {
	tb.Helper()
	s, e := sheet.Delta(a, b)
	if e != api.OK {
		tb.Fatal("no delta")
	}
	return s
}

// packetsOfAll are packets of each bucket, one each.
func packetsOfAll(tb testing.TB, seed uint64) [][]byte {
	tb.Helper()
	next := numbers(seed)
	l := make([][]byte, 16)
	for bucket := range l {
		l[bucket] = packetOf(tb, inBucket(bucket, next), 40+next(20))
	}
	return l
}

// P14.2: sheets taken one behind the other, the chapter 12's example too: what
// client.Take tells, and what is taken stands for what comes behind it.
func TestTake(t *testing.T) {
	all := versions(t, 60, 17)
	l := packetsOfAll(t, 17)
	for story := range uint64(40) {
		next := numbers(story)
		m, c := newMux(t, next(3)), client.New()
		id := m.id
		var drops [api.Drops]int
		for range 30 {
			s := someSheet(t, all, next)
			was, taken, e := client.Take(c, s)
			if gotTaken, gotE := m.Take(s); gotTaken != taken || gotE != e {
				t.Fatalf("Take: %v, %v, not %v, %v", gotTaken, gotE, taken, e)
			}
			c = was
			if m.Has() != client.Has(c) {
				t.Fatalf("Has: %d, not %d", m.Has(), client.Has(c))
			}
			for _, b := range l {
				right := want(c, id, b)
				if got := tell(m.In(b)); !same(got, right) {
					t.Fatalf("version %d: %v, not %v", client.Has(c), got, right)
				}
				if right.drop != api.DrNone {
					drops[right.drop]++
				}
			}
			wantDrops(t, m, drops)
		}
	}
}

// someSheet is one of those tables, or of none that may be.
func someSheet(tb testing.TB, all []api.Table, next func(int) int) api.Sheet {
	a, b := next(len(all)), next(len(all))
	switch {
	case next(6) == 0:
		return shot(tb, all[a])
	case next(6) == 0:
		s := shot(tb, all[a])
		s.Rows[next(16)].Entry.Cur = 6
		return s
	case a >= b:
		return api.Sheet{Base: a, To: b}
	case next(2) == 0: // not far on
		b = min(a+1+next(3), len(all)-1)
	}
	return delta(tb, all[a], all[b])
}

// P14.2: the errors, and what is told of a sheet that is not later, by name.
func TestTakeTold(t *testing.T) {
	all := versions(t, 12, 18)
	m := newMux(t, 0)
	tell := func(s api.Sheet, wantTaken bool, wantE api.Errno, wantHas int) {
		t.Helper()
		if taken, e := m.Take(s); taken != wantTaken || e != wantE || m.Has() != wantHas {
			t.Errorf("%v, %v, has %d", taken, e, m.Has())
		}
	}
	tell(delta(t, all[2], all[5]), false, api.ErrGap, -1)
	tell(api.Sheet{Base: 0, To: 0}, false, api.ErrArg, -1)
	tell(api.Sheet{Base: -1, To: 3}, false, api.ErrArg, -1)
	tell(shot(t, all[3]), true, api.OK, 3)
	tell(shot(t, all[3]), false, api.OK, 3)
	tell(delta(t, all[2], all[5]), true, api.OK, 5)
	tell(delta(t, all[7], all[8]), false, api.ErrGap, 5)
	tell(shot(t, all[4]), false, api.OK, 5)
	tell(delta(t, all[3], all[5]), false, api.OK, 5)
	tell(delta(t, all[5], all[6]), true, api.OK, 6)
	tell(shot(t, all[11]), true, api.OK, 11)
	for _, b := range packetsOfAll(t, 18) {
		c := api.Client{Has: true, Table: all[11]}
		if got := m.All(1, b)[0]; !bytes.Equal(got, want(c, 0, b).on) {
			t.Errorf("%v", got)
		}
	}
}

// P14.2, R4: a sheet that is taken is not kept, nor changed.
func TestTakeLeaves(t *testing.T) {
	c := someClient(0xffff, 19)
	m := newMux(t, 2)
	s := shot(t, c.Table)
	was := sheet.Own(s)
	m.Take(s)
	if !sheet.Same(s, was) {
		t.Error("the sheet has changed")
	}
	clear(s.Rows)
	for _, b := range packetsOfAll(t, 19) {
		if got := tell(m.In(b)); !same(got, want(c, 2, b)) {
			t.Fatalf("%v", got)
		}
	}
}

// P14.3: In is Forward by its client; each reason is counted once, what goes on
// counts nowhere.
func TestIn(t *testing.T) {
	for n := range 30 {
		c := someClient(0x5a5a^n<<3, uint64(n))
		m := muxWith(t, n%3, c)
		var drops [api.Drops]int
		l := append(someBytes(t, 60, uint64(n)), packetOf(t, someTuple(numbers(uint64(n))), 65500))
		for _, b := range l {
			right := want(c, n%3, b)
			got := tell(m.In(b))
			if !same(got, right) || !same(got, tell(Forward(c, n%3, b))) || got.drop != api.DrNone && got.on != nil {
				t.Fatalf("%v, not %v", got, right)
			}
			if right.drop != api.DrNone {
				drops[right.drop]++
			}
			wantDrops(t, m, drops)
		}
	}
}

// P14.3: each reason that a mux has is counted as itself, as often as it was.
func TestInEachReason(t *testing.T) {
	next := numbers(20)
	m := newMux(t, 1)
	var drops [api.Drops]int
	hand := func(b []byte, drop uint8) {
		t.Helper()
		for range int(drop) {
			if got := tell(m.In(b)); !same(got, dropped(drop)) {
				t.Fatalf("%d: %v", drop, got)
			}
			drops[drop]++
			wantDrops(t, m, drops)
		}
	}
	hand(nil, api.DrTable)
	m.Take(shot(t, someClient(0xfffe, 20).Table))
	for drop, b := range noPackets(t) {
		hand(b, drop)
	}
	hand(packetOf(t, inBucket(0, next), 40), api.DrOwner)
	hand(packetOf(t, inBucket(1, next), 65500), api.DrLong)
	for drop := range api.Drops {
		if drop >= api.DrShort && drop <= api.DrLong && drops[drop] == 0 {
			t.Errorf("%d was not tried", drop)
		}
	}
}

// P14.3, R4: what Drops tells is no part of the mux.
func TestDropsOwn(t *testing.T) {
	m := newMux(t, 0)
	m.In(nil)
	drops := m.Drops()
	clear(drops[:])
	wantDrops(t, m, [api.Drops]int{api.DrTable: 1})
}

// manyWorkers are numbers of workers: those that may be, below 1, above 8.
func manyWorkers() []int {
	return []int{math.MinInt, -1 << 40, -8, -1, 0, 1, 2, 3, 4, 5, 6, 7, 8, 9, 10, 17, 64, 1 << 31, 1 << 40, math.MaxInt}
}

// P14.3, P14.4: packets in order, whoever hands them in; nothing where one is
// dropped; each reason counted once. In tells and counts the same.
func TestAll(t *testing.T) {
	for _, n := range []int{0, 1, 2, 3, 7, 8, 9, 63, 64, 65, 66, 200} {
		c := someClient(0xf7ff, uint64(n))
		l := someBytes(t, n, uint64(n))
		one := muxWith(t, 2, c)
		var right [][]byte
		for _, b := range l {
			right = append(right, tell(one.In(b)).on)
		}
		for _, workers := range manyWorkers() {
			m := muxWith(t, 2, c)
			got := m.All(workers, l...)
			if len(got) != n {
				t.Fatalf("%d answers of %d packets", len(got), n)
			}
			for i := range got {
				if !bytes.Equal(got[i], right[i]) || (got[i] == nil) != (right[i] == nil) {
					t.Fatalf("%d workers, place %d: %v, not %v", workers, i, got[i], right[i])
				}
			}
			wantDrops(t, m, one.Drops())
		}
	}
}

// P14.3: of a new mux nothing goes on, DrTable each; counts go on over calls.
func TestAllNew(t *testing.T) {
	m := newMux(t, 0)
	n := 0
	for _, workers := range manyWorkers() {
		for i, on := range m.All(workers, packetsOfAll(t, 21)...) {
			if on != nil {
				t.Errorf("%d went on", i)
			}
			n++
		}
		wantDrops(t, m, [api.Drops]int{api.DrTable: n})
	}
	if n != 16*len(manyWorkers()) {
		t.Errorf("%d answers", n)
	}
}

// P14.3, R1: of no packets, nil and empty, nothing is told, and nothing counted;
// nil and empty ones are packets as others are.
func TestAllNothing(t *testing.T) {
	m := muxWith(t, 0, someClient(0xffff, 22))
	for _, workers := range manyWorkers() {
		if len(m.All(workers)) != 0 || len(m.All(workers, nil...)) != 0 || len(m.All(workers, [][]byte{}...)) != 0 {
			t.Error("told of nothing")
		}
	}
	wantDrops(t, m, [api.Drops]int{})
	if l := m.All(2, nil, []byte{}, nil); len(l) != 3 || l[0] != nil || l[1] != nil || l[2] != nil {
		t.Errorf("%v", l)
	}
	wantDrops(t, m, [api.Drops]int{api.DrShort: 3})
}

// P14.3, R4: the list that is handed in is not changed, spare room included.
func TestAllLeaves(t *testing.T) {
	m := muxWith(t, 0, someClient(0xffff, 23))
	room := someBytes(t, 40, 23)
	was := slices.Clone(room)
	var bytesWere [][]byte
	for _, b := range room {
		bytesWere = append(bytesWere, bytes.Clone(b))
	}
	got := m.All(3, room[:30]...)
	clear(got)
	for i := range room {
		if len(room[i]) != len(was[i]) || !bytes.Equal(room[i], bytesWere[i]) {
			t.Errorf("place %d has changed", i)
		}
	}
	if len(got) != 30 {
		t.Errorf("%d answers", len(got))
	}
}

// atWork tells how many there are that an All set to work: all stand still while
// they are counted.
func atWork() int {
	room := make([]byte, 1<<16)
	return bytes.Count(room[:runtime.Stack(room, true)], []byte("created by handfast/mux.(*Mux).All "))
}

// seen tells how many at most are seen to hand l in at once, while so many
// workers are asked for.
func seen(m *Mux, workers int, l [][]byte) int {
	var over atomic.Bool
	go func() {
		defer over.Store(true)
		m.All(workers, l...)
	}()
	most := 0
	for !over.Load() {
		most = max(most, atWork())
		runtime.Gosched()
	}
	for atWork() > 0 { // who has told that it is over may not be gone yet
		runtime.Gosched()
	}
	return most
}

// P14.3: so many hand in at once as are asked for, below 1 as 1, above 8 as 8,
// and none goes on behind the answer. A look may come when not all of them have
// begun, or when some are over: longer and longer lists are looked at.
func TestAllWorkers(t *testing.T) {
	m := muxWith(t, 0, someClient(0xffff, 24))
	l := slices.Repeat([][]byte{packetOf(t, someTuple(numbers(24)), 40)}, 1<<19)
	for _, workers := range manyWorkers() {
		right := min(max(workers, 1), 8)
		most := 0
		for n := 1 << 10; n <= len(l) && most < right; n *= 2 {
			most = max(most, seen(m, workers, l[:n]))
		}
		if most != right {
			t.Errorf("%d workers: %d hand in at once, not %d", workers, most, right)
		}
	}
}

// P14.4: handed in by many at once, in whatever way, each is told what it is
// told alone, and the same is counted.
func TestInAtOnce(t *testing.T) {
	for many := 1; many <= 16; many++ {
		c := someClient(0x7ffd, uint64(many))
		m := muxWith(t, many%3, c)
		var parts [16][][]byte
		var drops [api.Drops]int
		on := 0
		for i := range many {
			parts[i] = someBytes(t, 200, uint64(many*16+i))
			for _, b := range parts[i] {
				if right := want(c, many%3, b); right.drop != api.DrNone {
					drops[right.drop]++
				} else {
					on++
				}
			}
		}
		var went atomic.Int64
		atOnce(many, func(i int) {
			if i%3 == 2 {
				for at, got := range m.All(i, parts[i]...) {
					if !bytes.Equal(got, want(c, many%3, parts[i][at]).on) {
						t.Errorf("All: %v", got)
					}
					if got != nil {
						went.Add(1)
					}
				}
				return
			}
			for _, b := range parts[i] {
				got := tell(m.In(b))
				if !same(got, want(c, many%3, b)) {
					t.Errorf("In: %v", got)
				}
				if got.drop == api.DrNone {
					went.Add(1)
				}
			}
		})
		wantDrops(t, m, drops)
		if int(went.Load()) != on {
			t.Errorf("%d went on, not %d", went.Load(), on)
		}
	}
}

// P14.4: a mux's first packets come at once: who makes the hasher's table, and
// the counts, is the same to all.
func TestFirstAtOnce(t *testing.T) {
	c := someClient(0xfff0, 25)
	l := packetsOfAll(t, 25)
	for range 300 {
		m := muxWith(t, 0, c)
		atOnce(16, func(i int) {
			if got := tell(m.In(l[i])); !same(got, want(c, 0, l[i])) {
				t.Errorf("%v", got)
			}
		})
		wantDrops(t, m, [api.Drops]int{api.DrOwner: 4})
	}
}

// P14.3: the hasher makes its table once, and not ahead of a packet that asks
// for it.
func TestHasherMade(t *testing.T) {
	m := newMux(t, 0)
	m.In(nil)
	m.Take(shot(t, someClient(0xffff, 26).Table))
	m.In(nil)
	if m.hasher.Made() != 0 {
		t.Error("a table ahead of who asks")
	}
	m.All(8, slices.Concat(packetsOfAll(t, 26), packetsOfAll(t, 27))...)
	if m.hasher.Made() != 1 {
		t.Errorf("made %d times", m.hasher.Made())
	}
}

// P14.2, P14.4: sheets are taken while packets come: each goes by a table that
// the mux had meanwhile, never by an earlier one than was seen ahead of it, and
// each goes on, or is counted, once.
func TestTakeAtOnce(t *testing.T) {
	const packets, times = 5, 400
	all := versions(t, 40, 28)
	l := packetsOfAll(t, 28)
	m := muxWith(t, 1, api.Client{Has: true, Table: all[0]})
	var went, handed atomic.Int64
	atOnce(packets+3, func(i int) {
		switch {
		case i == 0: // by deltas, each in its turn
			for v := 1; v < len(all); v++ {
				m.Take(delta(t, all[v-1], all[v]))
				if m.Has() < v {
					t.Errorf("has %d behind %d", m.Has(), v)
				}
			}
		case i == 1: // by some snapshots
			for v := 0; v < len(all); v += 7 {
				m.Take(shot(t, all[v]))
				if m.Has() < v {
					t.Errorf("has %d behind %d", m.Has(), v)
				}
			}
		case i == 2: // late ones, which change nothing
			for range times {
				m.Take(shot(t, all[0]))
				m.Take(api.Sheet{})
			}
		default:
			for n := range times {
				b := l[(n+i)%16]
				from := m.Has()
				got := tell(m.In(b))
				to := m.Has()
				handed.Add(1)
				if got.drop == api.DrNone {
					went.Add(1)
				}
				if !someVersion(all[from:to+1], 1, b, got) {
					t.Errorf("from %d to %d: %v", from, to, got)
				}
			}
		}
	})
	if m.Has() != len(all)-1 {
		t.Errorf("has %d", m.Has())
	}
	if drops := m.Drops(); int64(drops[api.DrOwner])+went.Load() != handed.Load() {
		t.Errorf("%d went on, %v dropped, of %d", went.Load(), drops, handed.Load())
	}
	for _, b := range l {
		if got := tell(m.In(b)); !same(got, want(api.Client{Has: true, Table: all[len(all)-1]}, 1, b)) {
			t.Errorf("behind all: %v", got)
		}
	}
}

// P14.2: many take the same sheets at once: none is taken twice, and behind each
// the mux has it, or a later one.
func TestTakersAtOnce(t *testing.T) {
	const many = 8
	all := versions(t, 12, 32)
	var sheets []api.Sheet
	for _, x := range all[1:] {
		sheets = append(sheets, shot(t, x))
	}
	for range 300 {
		var taken [many][12]int
		m := newMux(t, 0)
		atOnce(many, func(i int) {
			for _, s := range sheets {
				yes, e := m.Take(s)
				if has := m.Has(); e != api.OK || has < s.To {
					t.Errorf("%v, has %d behind %d", e, has, s.To)
				}
				if yes {
					taken[i][s.To]++
				}
			}
		})
		for _, s := range sheets {
			times := 0
			for i := range taken {
				times += taken[i][s.To]
			}
			if times > 1 || times == 0 && s.To == len(all)-1 {
				t.Fatalf("%d was taken %d times", s.To, times)
			}
		}
	}
}

// someVersion asks whether got is what is told of b by one of these tables.
func someVersion(all []api.Table, id int, b []byte, got told) bool {
	return slices.ContainsFunc(all, func(x api.Table) bool {
		return same(got, want(api.Client{Has: true, Table: x}, id, b))
	})
}

// P14.2, P14.3: what is taken ahead of an All stands for all of it; what is
// taken meanwhile, for none of it, or for all.
func TestTakeWhileAll(t *testing.T) {
	all := versions(t, 30, 29)
	l := slices.Repeat(packetsOfAll(t, 29), 20)
	m := muxWith(t, 2, api.Client{Has: true, Table: all[0]})
	var over atomic.Bool
	atOnce(2, func(i int) {
		if i == 0 {
			defer over.Store(true)
			for v := 1; v < len(all); v++ {
				m.Take(delta(t, all[v-1], all[v]))
				runtime.Gosched()
			}
			return
		}
		for last := false; !last; {
			last = over.Load()
			from := m.Has()
			got := m.All(4, l...)
			to := m.Has()
			if !slices.ContainsFunc(all[from:to+1], func(x api.Table) bool { return allBy(x, 2, l, got) }) {
				t.Errorf("from %d to %d: of no one table", from, to)
			}
		}
	})
}

// allBy asks whether got is what goes on of l by the table x.
func allBy(x api.Table, id int, l, got [][]byte) bool {
	for i, b := range l {
		if !bytes.Equal(got[i], want(api.Client{Has: true, Table: x}, id, b).on) {
			return false
		}
	}
	return true
}

// P14.4, theorem 6: two muxes of the same table, whatever sheets they took,
// send a packet to the same backend, with the same numbers, or drop it for the
// same reason.
func TestTwoMuxes(t *testing.T) {
	all := versions(t, 50, 30)
	last := all[len(all)-1]
	for n := range uint64(20) {
		next := numbers(n)
		a := muxWith(t, 0, api.Client{Has: true, Table: last})
		b := muxWith(t, 2, api.Client{Has: true, Table: all[next(20)]})
		for b.Has() != last.Version {
			from := next(b.Has() + 1)
			to := min(b.Has()+1+next(9), last.Version)
			b.Take(delta(t, all[from], all[to]))
		}
		for _, in := range someBytes(t, 100, n) {
			one, other := tell(a.In(in)), tell(b.In(in))
			if one.to != other.to || one.drop != other.drop || len(one.on) != len(other.on) {
				t.Fatalf("%v: %v, but %v", in, one, other)
			}
			if one.drop == api.DrNone && (!bytes.Equal(one.on[16:], other.on[16:]) || one.on[15] != 0 || other.on[15] != 2) {
				t.Fatalf("%v, but %v", one.on, other.on)
			}
		}
		if a.Drops() != b.Drops() {
			t.Fatalf("%v, but %v", a.Drops(), b.Drops())
		}
	}
}

// R3: what one mux takes, and counts, no other one tells; one keeps nothing of
// packets: the same is told again, whatever came meanwhile.
func TestMuxesApart(t *testing.T) {
	c := someClient(0xffff, 31)
	a, b := muxWith(t, 0, c), newMux(t, 0)
	in := packetOf(t, someTuple(numbers(31)), 40)
	first := tell(a.In(in))
	for _, x := range someBytes(t, 300, 31) {
		a.In(x)
	}
	if !same(tell(a.In(in)), first) || first.drop != api.DrNone {
		t.Error("something was kept")
	}
	if b.Has() != -1 || !same(tell(b.In(in)), dropped(api.DrTable)) {
		t.Error("it has the other one's table")
	}
	wantDrops(t, b, [api.Drops]int{api.DrTable: 1})
	if a.Drops()[api.DrTable] != 0 {
		t.Error("it counts the other one's reasons")
	}
}
