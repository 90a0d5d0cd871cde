// Package sum is layer 1: RFC 1071's sum, by shared/doc/01-sum.md.
package sum

import "iter"

// allBits is the sum of bytes whose check lies among them.
const allBits = 0xffff

// Words (P1.1) tells the words of b, in order, in memory of their own.
func Words(b []byte) []uint16 {
	l := make([]uint16, 0, len(b)/2+len(b)%2)
	for w := range wordsOf(b) {
		l = append(l, w)
	}
	return l
}

// Fold (P1.1) is the sum of words.
func Fold(l ...uint16) uint16 {
	var total uint64
	for _, w := range l {
		total += uint64(w)
	}
	return carryRound(total)
}

// Sum (P1.1) is the sum of b's words.
func Sum(b []byte) uint16 {
	var total uint64
	for w := range wordsOf(b) {
		total += uint64(w)
	}
	return carryRound(total)
}

// Check (P1.1) is the complement of b's sum.
func Check(b []byte) uint16 {
	return ^Sum(b)
}

// Right (P1.2) asks whether b's sum is that of bytes with their check.
func Right(b []byte) bool {
	return Sum(b) == allBits
}

// Change (P1.2) is the check that was check, once the word old has become now.
func Change(check, old, now uint16) uint16 {
	return ^Fold(^check, ^old, now)
}

// wordsOf hands out b's words one by one, so that a sum needs no list of them.
func wordsOf(b []byte) iter.Seq[uint16] {
	return func(yield func(uint16) bool) {
		for i := 0; i < len(b); i += 2 {
			w := uint16(b[i]) << 8
			if i+1 < len(b) {
				w |= uint16(b[i+1])
			}
			if !yield(w) {
				return
			}
		}
	}
}

// carryRound brings total to 16 bits. Once is not enough: a carry that goes
// round may make another one. 64 bits hold the plain sum of any list that
// memory holds, so that it may be carried round at the end alone.
func carryRound(total uint64) uint16 {
again:
	if total > allBits {
		total = total&allBits + total>>16
		goto again
	}
	return uint16(total)
}
