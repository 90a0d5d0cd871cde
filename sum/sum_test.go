package sum

import (
	"bytes"
	"math/bits"
	"slices"
	"testing"
)

// chapterBytes are those of the chapter's example: sum ddf2, check 220d.
var chapterBytes = []byte{0, 1, 0xf2, 3, 0xf4, 0xf5, 0xf6, 0xf7}

// edgeWords are the words at which carries, complements and zeros differ.
var edgeWords = []uint16{0, 1, 2, 5, 0xff, 0x100, 0x1234, 0x7fff, 0x8000, 0x8001, 0xddf2, 0xff00, 0xfffe, 0xffff}

// stream gives the same bytes for the same seed, on every run.
func stream(seed uint64, n int) []byte {
	b := make([]byte, n)
	for i := range b {
		seed = seed*6364136223846793005 + 1442695040888963407
		b[i] = byte(seed >> 56)
	}
	return b
}

// slowSum adds word by word and carries at once: another way than Sum's.
func slowSum(b []byte) uint16 {
	var s uint16
	for i := 0; i < len(b); i += 2 {
		low := byte(0)
		if i+1 < len(b) {
			low = b[i+1]
		}
		t, carry := bits.Add32(uint32(s)<<16, (uint32(b[i])<<8|uint32(low))<<16, 0)
		s = uint16(t>>16) + uint16(carry)
	}
	return s
}

// bytesOf lays words out as bytes, the higher half first.
func bytesOf(l ...uint16) []byte {
	var b []byte
	for _, w := range l {
		b = append(b, byte(w>>8), byte(w))
	}
	return b
}

// filled is n bytes, all of them v.
func filled(n int, v byte) []byte {
	return bytes.Repeat([]byte{v}, n)
}

// P1.1, Words: pairs, the first one the higher half; a last one alone is a
// higher half.
func TestWords(t *testing.T) {
	for i, c := range []struct {
		b []byte
		l []uint16
	}{
		{nil, nil},
		{[]byte{}, nil},
		{[]byte{0}, []uint16{0}},
		{[]byte{7}, []uint16{0x700}},
		{[]byte{0xff}, []uint16{0xff00}},
		{[]byte{1, 2}, []uint16{0x102}},
		{[]byte{0, 0xff}, []uint16{0xff}},
		{[]byte{1, 2, 3}, []uint16{0x102, 0x300}},
		{[]byte{0, 0, 0}, []uint16{0, 0}},
		{chapterBytes, []uint16{1, 0xf203, 0xf4f5, 0xf6f7}},
		{chapterBytes[:7], []uint16{1, 0xf203, 0xf4f5, 0xf600}},
	} {
		if l := Words(c.b); !slices.Equal(l, c.l) {
			t.Errorf("%d: Words(%x) = %x, not %x", i, c.b, l, c.l)
		}
	}
}

// P1.1, Words: long lists, even and odd, laid out again are the same bytes.
func TestWordsLong(t *testing.T) {
	for _, n := range []int{65534, 65535, 65536, 200001} {
		b := stream(uint64(n), n)
		back := bytesOf(Words(b)...)
		if len(back) != n+n%2 || !bytes.Equal(back[:n], b) || n%2 == 1 && back[n] != 0 {
			t.Errorf("the words of %d bytes are not these bytes", n)
		}
	}
}

// P1.1 and R4: words lie in memory of their own; what is handed in, and what
// lies behind it, stays; what lies behind it isn't read.
func TestWordsOwnMemory(t *testing.T) {
	room := []byte{1, 2, 3, 9, 9}
	b := room[:3]
	first, second := Words(b), Words(b)
	first[0], first[1] = 0xaaaa, 0xbbbb
	_ = append(first, 0xcccc)
	if !slices.Equal(second, []uint16{0x102, 0x300}) {
		t.Errorf("two answers share memory: %x", second)
	}
	room[0] = 0x77
	if second[0] != 0x102 {
		t.Error("an answer shares memory with what was handed in")
	}
	Sum(b)
	Check(b)
	Right(b)
	if !bytes.Equal(room, []byte{0x77, 2, 3, 9, 9}) {
		t.Errorf("what was handed in has changed: %x", room)
	}
	if Sum(b) != slowSum([]byte{0x77, 2, 3}) {
		t.Error("spare room was read")
	}
}

// P1.1, Fold: carries go round as long as there are any; 0 only of zeros.
func TestFold(t *testing.T) {
	for i, c := range []struct {
		l []uint16
		n uint16
	}{
		{nil, 0},
		{[]uint16{}, 0},
		{[]uint16{0}, 0},
		{[]uint16{0, 0, 0}, 0},
		{[]uint16{5, 7}, 12},
		{[]uint16{0xffff}, 0xffff},
		{[]uint16{0xfffe, 1}, 0xffff},
		{[]uint16{0xffff, 0}, 0xffff},
		{[]uint16{0xffff, 1}, 1},
		{[]uint16{0xffff, 0xffff}, 0xffff},
		{[]uint16{0x8000, 0x8000}, 1},
		{[]uint16{1, 0xf203, 0xf4f5, 0xf6f7}, 0xddf2},
	} {
		if n := Fold(c.l...); n != c.n {
			t.Errorf("%d: Fold(%x) = %x, not %x", i, c.l, n, c.n)
		}
	}
}

// P1.1, Fold: lists so long that what is carried round makes new carries,
// twice and thrice; the plain sum is beyond 32 bits.
func TestFoldCarriesAgain(t *testing.T) {
	ones := slices.Repeat([]uint16{0xffff}, 65538)
	for n := 65535; n <= 65538; n++ {
		if s := Fold(ones[:n]...); s != 0xffff {
			t.Errorf("%d times ffff: %x", n, s)
		}
		if s := Fold(append(slices.Clone(ones[:n]), 1)...); s != 1 {
			t.Errorf("%d times ffff, and 1: %x", n, s)
		}
	}
	// 65537 times 8000 is 80008000, carried round once 10000, twice 1.
	if s := Fold(slices.Repeat([]uint16{0x8000}, 65537)...); s != 1 {
		t.Errorf("65537 times 8000: %x", s)
	}
	if s := Fold(slices.Repeat([]uint16{0xffff}, 200000)...); s != 0xffff {
		t.Errorf("200000 times ffff: %x", s)
	}
}

// P1.1 and R4, Fold: the list handed in stays as it is.
func TestFoldKeepsList(t *testing.T) {
	room := []uint16{0xffff, 0xffff, 3, 9}
	if Fold(room[:3]...) != 3 || !slices.Equal(room, []uint16{0xffff, 0xffff, 3, 9}) {
		t.Errorf("%x", room)
	}
}

// P1.1, Sum and Check: the chapter's example, odd lengths, nothing, zeros.
func TestSumCheck(t *testing.T) {
	for i, c := range []struct {
		b []byte
		n uint16
	}{
		{nil, 0},
		{[]byte{}, 0},
		{[]byte{0}, 0},
		{[]byte{0, 0, 0}, 0},
		{[]byte{1}, 0x100},
		{[]byte{0xff}, 0xff00},
		{[]byte{0xff, 0xff}, 0xffff},
		{[]byte{0xff, 0xff, 0, 1}, 1},
		{[]byte{0xff, 0xff, 1}, 0x100},
		{[]byte{0x80, 0, 0x80}, 1},
		{chapterBytes, 0xddf2},
		{chapterBytes[:7], 0xdcfb},
		{filled(65535, 0xff), 0xff00},
		{filled(200000, 0xff), 0xffff},
		{filled(200000, 0), 0},
	} {
		if n := Sum(c.b); n != c.n {
			t.Errorf("%d: sum %x, not %x", i, n, c.n)
		}
		if n := Check(c.b); n != 0xffff-c.n {
			t.Errorf("%d: check %x, not %x", i, n, 0xffff-c.n)
		}
	}
	if Check(chapterBytes) != 0x220d {
		t.Errorf("the chapter's check: %x", Check(chapterBytes))
	}
}

// P1.1, Sum: it is that of the words, at all lengths, odd and even.
func TestSumIsThatOfWords(t *testing.T) {
	for n := range 400 {
		b := stream(uint64(n)+1, n)
		s := Sum(b)
		if s != slowSum(b) || s != Fold(Words(b)...) || Check(b) != ^s {
			t.Errorf("%d bytes: %x", n, s)
		}
	}
	b := stream(3, 300001)
	if Sum(b) != slowSum(b) || Sum(b) != Fold(Words(b)...) {
		t.Error("300001 bytes")
	}
}

// P1.1: a sum is 0 if all words are 0, and else never.
func TestSumZero(t *testing.T) {
	for _, a := range edgeWords {
		for _, b := range edgeWords {
			for _, c := range edgeWords {
				if (Fold(a, b, c) == 0) != (a|b|c == 0) {
					t.Errorf("%x %x %x: %x", a, b, c, Fold(a, b, c))
				}
			}
		}
	}
}

// P1.2, Right: just the sum 65535 is right.
func TestRight(t *testing.T) {
	for i, c := range []struct {
		b  []byte
		is bool
	}{
		{nil, false},
		{[]byte{}, false},
		{[]byte{0, 0}, false},
		{[]byte{0xff}, false},
		{[]byte{0xff, 0xff}, true},
		{[]byte{0xff, 0xff, 0}, true},
		{[]byte{0xff, 0, 0, 0xff}, true},
		{[]byte{0xff, 0xfe, 0, 1}, true},
		{[]byte{0xff, 0xfe}, false},
		{[]byte{0xff, 0xff, 0, 1}, false},
		{[]byte{0, 0xff, 0xff}, true},
		{chapterBytes, false},
		{append(slices.Clone(chapterBytes), 0x22, 0x0d), true},
		{append(slices.Clone(chapterBytes), 0x22, 0x0e), false},
		{append(slices.Clone(chapterBytes), 0x0d, 0x22), false},
		{filled(200000, 0xff), true},
		{filled(200001, 0xff), false},
	} {
		if is := Right(c.b); is != c.is {
			t.Errorf("%d: %v", i, is)
		}
	}
	for w := range 65536 {
		if Right(bytesOf(uint16(w))) != (w == 65535) {
			t.Errorf("the one word %x", w)
		}
	}
}

// P1.2, Change: the complement of the sum of three, told word by word.
func TestChange(t *testing.T) {
	for i, c := range [][4]uint16{
		{0x220d, 0xf203, 0xf204, 0x220c},
		{0x220d, 0xf203, 0xf203, 0x220d},
		{0x220d, 1, 0, 0x220e},
		{0x220d, 1, 0xffff, 0x220e},
		{0xffff, 0, 5, 0xfffa},
		{0xfffa, 5, 0, 0},
		{0, 0, 0, 0},
		{0xffff, 0, 0, 0},
		{0xffff, 0xffff, 0, 0xffff},
		{0xffff, 0xffff, 0xffff, 0},
		{0, 0xffff, 0, 0},
		{0, 0, 0xffff, 0},
	} {
		if n := Change(c[0], c[1], c[2]); n != c[3] {
			t.Errorf("%d: Change(%x, %x, %x) = %x, not %x", i, c[0], c[1], c[2], n, c[3])
		}
	}
	for _, check := range edgeWords {
		for _, old := range edgeWords {
			for _, now := range edgeWords {
				want := ^slowSum(bytesOf(^check, ^old, now))
				if n := Change(check, old, now); n != want {
					t.Errorf("Change(%x, %x, %x) = %x, not %x", check, old, now, n, want)
				}
			}
		}
	}
}

// P1.3: any order of words has the same sum.
func TestOrder(t *testing.T) {
	l := Words(stream(11, 2001))
	want := Fold(l...)
	back := slices.Clone(l)
	slices.Reverse(back)
	sorted := slices.Clone(l)
	slices.Sort(sorted)
	if Fold(back...) != want || Fold(sorted...) != want {
		t.Errorf("%x, backwards %x, sorted %x", want, Fold(back...), Fold(sorted...))
	}
	for i := range l {
		if s := Fold(append(slices.Clone(l[i:]), l[:i]...)...); s != want {
			t.Errorf("begun at %d: %x, not %x", i, s, want)
		}
	}
}

// P1.3: whichever words are added first, the sum is the same.
func TestGroups(t *testing.T) {
	for _, a := range edgeWords {
		for _, b := range edgeWords {
			for _, c := range edgeWords {
				s := Fold(a, b, c)
				if Fold(Fold(a, b), c) != s || Fold(a, Fold(b, c)) != s || Fold(b, Fold(c, a)) != s {
					t.Errorf("%x %x %x", a, b, c)
				}
			}
		}
	}
	l := Words(stream(12, 999))
	for i := range l {
		if Fold(Fold(l[:i]...), Fold(l[i:]...)) != Fold(l...) {
			t.Errorf("split at %d", i)
		}
	}
}

// P1.3: bytes with two zeros at an even place are right with their check
// there, be they all zeros, or odd in number.
func TestCheckLaidIn(t *testing.T) {
	for n := 2; n < 60; n++ {
		for _, b := range [][]byte{stream(uint64(n)+77, n), filled(n, 0), filled(n, 0xff)} {
			for at := 0; at+1 < n; at += 2 {
				with := slices.Clone(b)
				with[at], with[at+1] = 0, 0
				check := Check(with)
				with[at], with[at+1] = byte(check>>8), byte(check)
				if !Right(with) {
					t.Errorf("%x with the check at %d", with, at)
				}
				with[at] ^= 0x40
				if Right(with) {
					t.Errorf("%x is right with another check at %d", with, at)
				}
			}
		}
	}
}

// P1.3: a word changed, Change tells the new check, if not all words are 0
// then; if they are, it tells 0, which is another one.
func TestChangeTellsCheck(t *testing.T) {
	for _, rest := range edgeWords {
		for _, old := range edgeWords {
			for _, now := range edgeWords {
				was, is := Check(bytesOf(old, rest)), Check(bytesOf(now, rest))
				n := Change(was, old, now)
				if rest|now != 0 && n != is {
					t.Errorf("%x, %x becomes %x: %x, not %x", rest, old, now, n, is)
				}
				if rest|now == 0 && (n != 0 || is != 0xffff) {
					t.Errorf("%x becomes 0: %x, %x", old, n, is)
				}
			}
		}
	}
	b := stream(21, 501)
	for at := 0; at+1 < len(b); at += 2 {
		for _, now := range edgeWords {
			with := slices.Clone(b)
			with[at], with[at+1] = byte(now>>8), byte(now)
			old := uint16(b[at])<<8 | uint16(b[at+1])
			if n := Change(Check(b), old, now); n != Check(with) {
				t.Errorf("at %d: %x, not %x", at, n, Check(with))
			}
		}
	}
}
