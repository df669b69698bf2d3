// Package field is layer 1: bit fields of 64-bit words.
package field

import (
	"iter"
	"math/bits"

	"tenement/api"
)

// span is the bits from hi to lo of a word; it may be none.
type span struct{ hi, lo int }

// there is asked ahead of every shift: a shift by a number below 0 panics.
func (s span) there() bool {
	switch {
	case s.lo < 0, s.hi < s.lo, s.hi > 63:
		return false
	}
	return true
}

// most is the greatest value that a span which is there can hold.
func (s span) most() uint64 {
	return ^uint64(0) >> (63 - (s.hi - s.lo))
}

// put needs a v that fits: a greater one would reach into the bits above hi.
func (s span) put(x, v uint64) uint64 {
	return x&^(s.most()<<s.lo) | v<<s.lo
}

// Get tells the field's value, 0 if it is none (P1.1).
func Get(x uint64, hi, lo int) uint64 {
	s := span{hi, lo}
	if !s.there() {
		return 0
	}
	return x >> lo & s.most()
}

// Put answers x with the field v; beside ErrArg it answers x as it was (P1.2).
func Put(x uint64, hi, lo int, v uint64) (uint64, api.Errno) {
	if !Fits(v, hi, lo) {
		return x, api.ErrArg
	}
	put := span{hi, lo}.put
	return put(x, v), api.OK
}

// Fits tells whether the field can hold v; one that is none holds nothing, not even 0 (P1.1).
func Fits(v uint64, hi, lo int) bool {
	s := span{hi, lo}
	return s.there() && v <= s.most()
}

// Ones is the word of which just the field's bits are 1, 0 if it is none (P1.1).
func Ones(hi, lo int) uint64 {
	s := span{hi, lo}
	if !s.there() {
		return 0
	}
	return s.most() << lo
}

// Sign reads the bits from hi to 0 as a number of which bit hi is the sign, 0 if hi is none (P1.3).
func Sign(x uint64, hi int) int64 {
	if !(span{hi, 0}).there() {
		return 0
	}
	up := 63 - hi
	return int64(x<<up) >> up // shifted back as a signed number, so that the sign fills the bits above hi
}

// word is a word as a whole; a value, so that what each goes over cannot change between two goes.
type word uint64

func (w word) each(yield func(int) bool) {
	for left := uint64(w); left != 0; left &= left - 1 {
		if !yield(bits.TrailingZeros64(left)) {
			return
		}
	}
}

// Each goes over the places of the bits that are 1, rising (P1.3).
func Each(x uint64) iter.Seq[int] {
	return word(x).each
}
