package guard

import (
	"math/bits"

	"plumbline/api"
)

const (
	manBits  = 52 // of a word, its lowest ones; the exponent's are above them, and the sign is the highest one
	sign     = 1 << 63
	endless  = 0x7FF << manBits // the infinity's word: the exponent's bits
	bias     = 1023
	leastExp = -1074 // the least float is 2^leastExp
	mostExp  = 971   // the greatest one is less than 2^53 times 2^mostExp

	// Words without their signs have the order of the sizes.
	leastSize    = (bias + api.MinPower) << manBits
	greatestSize = (bias + api.MaxPower) << manBits
)

// size is the word without its sign.
func size(w uint64) uint64 { return w &^ sign }

func finite(w uint64) bool { return size(w) < endless }

// same tells if both words are of one number; both are finite.
func same(v, w uint64) bool { return v == w || size(v|w) == 0 }

// apart answers a finite word's size as man times 2^exp.
func apart(w uint64) (man uint64, exp int) {
	man, exp = w&(1<<manBits-1), int(size(w)>>manBits)
	if exp == 0 {
		return man, leastExp
	}
	return man | 1<<manBits, exp - 1 + leastExp
}

// together answers the word of man times 2^exp, rounded once; man has at most 53 bits, and is not 0.
func together(man uint64, exp int) uint64 {
	up := manBits + 1 - bits.Len64(man)
	man, exp = man<<up, exp-up
	switch {
	case exp < leastExp:
		return shiftRounded(man, leastExp-exp)
	case exp > mostExp:
		return endless
	}
	// Man's highest bit adds 1 to the exponent's bits.
	return uint64(exp-leastExp)<<manBits + man
}

// shiftRounded is man by 2^n, n above 0, rounded to the nearest whole number, ties to the even one. It is the word of as many of the least floats, also where it becomes a normal one's.
func shiftRounded(man uint64, n int) uint64 {
	half := uint64(1) << (n - 1) // 0 of a great n, by which the last shift leaves nothing
	odd := man >> n & 1
	return (man + half - 1 + odd) >> n
}
