package counts

import (
	"bytes"
	"math"
	"runtime"
	"slices"
	"sync"
	"sync/atomic"
	"testing"

	"handfast/api"
)

// stream gives the same bytes for the same seed, on every run.
func stream(seed uint64, n int) []uint8 {
	b := make([]uint8, n)
	for i := range b {
		seed = seed*6364136223846793005 + 1442695040888963407
		b[i] = uint8(seed >> 56)
	}
	return b
}

// often tells how often each reason is in l, one reason behind the other:
// another way than a counter's.
func often(l ...uint8) [api.Drops]int {
	var all [api.Drops]int
	for reason := 1; reason <= 18; reason++ {
		for _, is := range l {
			if int(is) == reason {
				all[reason]++
			}
		}
	}
	return all
}

// sum is all of all together.
func sum(all [api.Drops]int) int {
	n := 0
	for i := range all {
		n += all[i]
	}
	return n
}

// wantAll asks of c, by all ways to ask it, that it has counted all.
func wantAll(t *testing.T, c *Counter, all [api.Drops]int) {
	t.Helper()
	if got := c.All(); got != all {
		t.Fatalf("All: %v, not %v", got, all)
	}
	if got := c.Sum(); got != sum(all) {
		t.Fatalf("Sum: %d, not %d", got, sum(all))
	}
	for reason := range 256 {
		want := 0
		if reason < len(all) {
			want = all[reason]
		}
		if got := c.Many(uint8(reason)); got != want {
			t.Fatalf("Many(%d): %d, not %d", reason, got, want)
		}
	}
}

// atOnce has n at work at once, and waits for them. They look out for their
// beginning as they go on, as those that sleep wake one by one.
func atOnce(n int, work func(i int)) {
	var over sync.WaitGroup
	var there atomic.Int64
	for i := range n {
		over.Go(func() {
			there.Add(1)
			for there.Load() < int64(n) {
				runtime.Gosched()
			}
			work(i)
		})
	}
	over.Wait()
}

// P13.1, P13.2: the chapter's example.
func TestExample(t *testing.T) {
	want := [api.Drops]int{api.DrSum: 2, api.DrIdle: 1}
	var c Counter
	c.Add(api.DrSum)
	c.Add(api.DrIdle)
	c.Add(api.DrSum)
	wantAll(t, &c, want)
	for workers := range 10 {
		if got := Tally(workers, api.DrSum, api.DrIdle, api.DrSum); got != want {
			t.Errorf("%d workers: %v", workers, got)
		}
	}
}

// P13.1: the zero value has counted nothing, whichever way it is asked first,
// and asking it counts nothing.
func TestZeroValue(t *testing.T) {
	var none [api.Drops]int
	wantAll(t, new(Counter), none)
	var byMany, bySum, byAdd Counter
	if n := byMany.Many(api.DrFull); n != 0 {
		t.Errorf("Many: %d", n)
	}
	if n := bySum.Sum(); n != 0 {
		t.Errorf("Sum: %d", n)
	}
	if !byAdd.Add(api.DrFull) {
		t.Error("the first reason was not counted")
	}
	wantAll(t, &byMany, none)
	wantAll(t, &bySum, none)
	wantAll(t, &byAdd, [api.Drops]int{api.DrFull: 1})
}

// P13.1: a counter makes its counts when it is used first, and not again.
func TestMade(t *testing.T) {
	uses := []func(*Counter){
		func(c *Counter) { c.Add(api.DrLong) },
		func(c *Counter) { c.Many(api.DrLong) },
		func(c *Counter) { c.All() },
		func(c *Counter) { c.Sum() },
	}
	for i, use := range uses {
		var c Counter
		if c.counts != nil {
			t.Fatal("counts ahead of whoever uses them")
		}
		use(&c)
		if len(c.counts) != int(api.Drops) {
			t.Fatalf("use %d: %d counts", i, len(c.counts))
		}
		made := &c.counts[0]
		for _, again := range uses {
			again(&c)
		}
		if &c.counts[0] != made {
			t.Errorf("use %d: the counts were made twice", i)
		}
	}
}

// P13.1, R1: of a nil counter nothing is counted.
func TestNil(t *testing.T) {
	var c *Counter
	for reason := range 256 {
		if c.Add(uint8(reason)) {
			t.Errorf("Add(%d) of nil", reason)
		}
	}
	wantAll(t, c, [api.Drops]int{})
}

// P13.1, Add: each reason counts once, for itself alone, and it is told so.
func TestAddEach(t *testing.T) {
	for reason := api.DrShort; reason <= api.DrFull; reason++ {
		var c Counter
		var want [api.Drops]int
		for n := range 5 {
			wantAll(t, &c, want)
			if !c.Add(reason) {
				t.Errorf("Add(%d), time %d: no", reason, n)
			}
			want[reason]++
		}
		wantAll(t, &c, want)
	}
}

// P13.1, Add: DrNone, and what is no reason, counts nowhere, and it is told so,
// of a new counter and of one that has counted.
func TestAddNoReason(t *testing.T) {
	var empty, used Counter
	for reason := api.DrShort; reason < api.Drops; reason++ {
		used.Add(reason)
	}
	was := used.All()
	for no := range 256 {
		if no >= 1 && no <= 18 {
			continue
		}
		if empty.Add(uint8(no)) || used.Add(uint8(no)) {
			t.Errorf("Add(%d): yes", no)
		}
	}
	wantAll(t, &empty, [api.Drops]int{})
	wantAll(t, &used, was)
}

// P13.1: bytes one behind the other, reasons or none; asked behind each.
func TestAddMixed(t *testing.T) {
	for seed := range uint64(20) {
		var c Counter
		l := stream(seed, 60)
		for i := range l {
			if seed%2 == 0 {
				l[i] %= 21
			}
			if is := c.Add(l[i]); is != (l[i] > 0 && l[i] < 19) {
				t.Errorf("Add(%d): %v", l[i], is)
			}
			wantAll(t, &c, often(l[:i+1]...))
		}
	}
}

// P13.1, P13.2: counts of more than 16 bits.
func TestAddOften(t *testing.T) {
	const times = 1<<17 + 5
	var c Counter
	for range times {
		c.Add(api.DrTcp)
	}
	c.Add(api.DrTcpSum)
	wantAll(t, &c, [api.Drops]int{api.DrTcp: times, api.DrTcpSum: 1})
	if got := Tally(3, slices.Repeat([]uint8{api.DrTcp}, times)...); got != [api.Drops]int{api.DrTcp: times} {
		t.Errorf("Tally: %v", got)
	}
}

// P13.1, R3: what one counter counts no other one tells.
func TestCountersApart(t *testing.T) {
	var a, b Counter
	a.Add(api.DrSum)
	b.Add(api.DrOwner)
	b.Add(api.DrSum)
	b.Add(api.DrSum)
	wantAll(t, &a, [api.Drops]int{api.DrSum: 1})
	wantAll(t, &b, [api.Drops]int{api.DrSum: 2, api.DrOwner: 1})
	Tally(4, api.DrSum, api.DrSum)
	wantAll(t, &a, [api.Drops]int{api.DrSum: 1})
	wantAll(t, new(Counter), [api.Drops]int{})
}

// P13.1, R4: an answer is no part of the counter.
func TestAllOwnMemory(t *testing.T) {
	var c Counter
	c.Add(api.DrStale)
	all := c.All()
	for i := range all {
		all[i] = -7
	}
	wantAll(t, &c, [api.Drops]int{api.DrStale: 1})
}

// P13.2, R1: of no reasons at all, nil and empty, nothing is told.
func TestTallyNothing(t *testing.T) {
	for _, workers := range manyWorkers() {
		for range 20 {
			if Tally(workers) != [api.Drops]int{} || Tally(workers, nil...) != [api.Drops]int{} || Tally(workers, []uint8{}...) != [api.Drops]int{} {
				t.Errorf("%d workers tell of nothing", workers)
			}
		}
	}
}

// manyWorkers are numbers of workers: those that may be, below 1, above 8.
func manyWorkers() []int {
	return []int{math.MinInt, -1 << 40, -8, -1, 0, 1, 2, 3, 4, 5, 6, 7, 8, 9, 10, 17, 64, 1 << 31, 1 << 40, math.MaxInt}
}

// P13.2: one reason, or none, by each number of workers.
func TestTallyOne(t *testing.T) {
	for _, workers := range manyWorkers() {
		for reason := range 256 {
			var want [api.Drops]int
			if reason >= 1 && reason <= 18 {
				want[reason] = 1
			}
			if got := Tally(workers, uint8(reason)); got != want {
				t.Errorf("%d workers, %d: %v", workers, reason, got)
			}
		}
	}
}

// P13.2, P13.3: lists of all lengths, what is no reason among them: the same by
// each number of workers, and what a counter tells that they are added to.
func TestTally(t *testing.T) {
	for n := range 150 {
		l := stream(uint64(n), n)
		if n%3 > 0 {
			for i := range l {
				l[i] %= 21
			}
		}
		was, want := slices.Clone(l), often(l...)
		var c Counter
		for _, reason := range l {
			c.Add(reason)
		}
		wantAll(t, &c, want)
		for _, workers := range manyWorkers() {
			if got := Tally(workers, l...); got != want {
				t.Errorf("%d workers, %d reasons: %v, not %v", workers, n, got, want)
			}
		}
		if !bytes.Equal(l, was) {
			t.Error("what was handed in has changed")
		}
	}
}

// P13.2, P13.3: long lists, of one reason, of all, in whatever order.
func TestTallyLong(t *testing.T) {
	const n = 60000
	mixed := stream(1, n)
	for i := range mixed {
		mixed[i] %= 20
	}
	sorted := slices.Clone(mixed)
	slices.Sort(sorted)
	back := slices.Clone(sorted)
	slices.Reverse(back)
	one := slices.Repeat([]uint8{api.DrUnknown}, n)
	for _, l := range [][]uint8{mixed, sorted, back, one, stream(2, n)} {
		want := often(l...)
		for _, workers := range []int{0, 1, 2, 3, 7, 8, 9} {
			if got := Tally(workers, l...); got != want {
				t.Errorf("%d workers: %v, not %v", workers, got, want)
			}
		}
	}
}

// P13.2, R3, R4: the same is told again; what is handed in stays as it is, and
// what lies behind it is not counted.
func TestTallyLeaves(t *testing.T) {
	room := stream(3, 400)
	was, want := slices.Clone(room), often(room[:300]...)
	for range 50 {
		if got := Tally(5, room[:300]...); got != want {
			t.Fatalf("%v, not %v", got, want)
		}
	}
	if !bytes.Equal(room, was) {
		t.Error("what was handed in has changed")
	}
}

// P13.3: many tallies at once do not tell of each other.
func TestTalliesAtOnce(t *testing.T) {
	for n := range 40 {
		var got [12][api.Drops]int
		atOnce(len(got), func(i int) { got[i] = Tally(i, stream(uint64(n+i), 200)...) })
		for i := range got {
			if want := often(stream(uint64(n+i), 200)...); got[i] != want {
				t.Errorf("%v, not %v", got[i], want)
			}
		}
	}
}

// atWork tells how many there are that a Tally set to work: all stand still
// while they are counted.
func atWork() int {
	room := make([]byte, 1<<16)
	return bytes.Count(room[:runtime.Stack(room, true)], []byte("created by handfast/counts.Tally "))
}

// seen tells how many at most are seen to count l at once, while so many
// workers are asked for.
func seen(workers int, l []uint8) int {
	var over atomic.Bool
	go func() {
		defer over.Store(true)
		Tally(workers, l...)
	}()
	most := 0
	for !over.Load() {
		most = max(most, atWork())
		runtime.Gosched()
	}
	for atWork() > 0 { // who has told that it is over may not be gone yet
		runtime.Gosched()
	}
	return most
}

// P13.2: so many count at once as are asked for, below 1 as 1, above 8 as 8,
// and none goes on behind the answer. A look may come when not all of them have
// begun, or when some are over: longer and longer lists are looked at.
func TestTallyWorkers(t *testing.T) {
	l := stream(4, 1<<22)
	for _, workers := range manyWorkers() {
		want := min(max(workers, 1), 8)
		most := 0
		for n := 1 << 12; n <= len(l) && most < want; n *= 2 {
			most = max(most, seen(workers, l[:n]))
		}
		if most != want {
			t.Errorf("%d workers: %d count at once, not %d", workers, most, want)
		}
	}
}

// P13.3: reasons, and what is none, counted by many at once: as by one, and
// each is told whether it was counted.
func TestAddAtOnce(t *testing.T) {
	for many := 1; many <= 16; many++ {
		var c Counter
		var all [api.Drops]int
		var counted [16]int
		var parts [16][]uint8
		for i := range many {
			parts[i] = stream(uint64(i), 3000)
			for at := range parts[i] {
				parts[i][at] %= 20
			}
			for reason, n := range often(parts[i]...) {
				all[reason] += n
			}
		}
		atOnce(many, func(i int) {
			for _, reason := range parts[i] {
				if c.Add(reason) {
					counted[i]++
				}
			}
		})
		wantAll(t, &c, all)
		for i := range many {
			if counted[i] != sum(often(parts[i]...)) {
				t.Errorf("%d: %d were told to be counted", i, counted[i])
			}
		}
	}
}

// P13.3: all count one and the same reason at once: none is lost.
func TestAddSameAtOnce(t *testing.T) {
	const many, times = 16, 20000
	for _, reason := range []uint8{api.DrShort, api.DrTable, api.DrFull} {
		var c Counter
		atOnce(many, func(int) {
			for range times {
				c.Add(reason)
			}
		})
		var want [api.Drops]int
		want[reason] = many * times
		wantAll(t, &c, want)
	}
}

// P13.3: many use a counter first at once, in whatever way: what they counted
// is counted, though who only asks is the first one; who has counted sees it.
func TestFirstAtOnce(t *testing.T) {
	const many = 12
	for range 6000 {
		var c Counter
		var told [many]int
		atOnce(many, func(i int) {
			switch i % 4 {
			case 0:
				told[i] = c.Sum()
			case 1:
				c.All()
				c.Add(api.DrLength)
				told[i] = c.Many(api.DrLength)
			default:
				c.Add(api.DrLength)
				told[i] = c.Many(api.DrLength)
			}
		})
		for i, n := range told {
			if n > many*3/4 || n < min(i%4, 1) {
				t.Fatalf("%d is told %d", i, n)
			}
		}
		if all := c.All(); all != [api.Drops]int{api.DrLength: many * 3 / 4} {
			t.Fatalf("%v", all)
		}
	}
}

// P13.1, P13.3: who asks while others count is told of no more than will be
// counted, and never of less than ahead.
func TestAskAtOnce(t *testing.T) {
	const adders, askers, times = 6, 6, 3000
	var c Counter
	atOnce(adders+askers, func(i int) {
		if i < adders {
			for range times {
				c.Add(api.DrVersion)
				c.Add(api.DrBucket)
			}
			return
		}
		var last [api.Drops]int
		var one, together int
		for range times {
			now := c.All()
			for reason := range now {
				if now[reason] < last[reason] || now[reason] > adders*times {
					t.Errorf("%d: %d, ahead of it %d", reason, now[reason], last[reason])
				}
			}
			last = now
			n := c.Many(api.DrBucket)
			if n < max(one, now[api.DrBucket]) || n > adders*times {
				t.Errorf("Many: %d, ahead of it %d", n, one)
			}
			s := c.Sum()
			if s < max(together, sum(now)) || s > 2*adders*times {
				t.Errorf("Sum: %d, ahead of it %d", s, together)
			}
			one, together = n, s
		}
	})
	wantAll(t, &c, [api.Drops]int{api.DrVersion: adders * times, api.DrBucket: adders * times})
}
