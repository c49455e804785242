package nat

import (
	"math"
	"math/bits"

	"plumbline/api"
)

// Div answers q and r with a = q b + r, r below b.
func Div(a, b []uint64) (q, r []uint64, e api.Errno) {
	a, b, e = bothTaken(a, b)
	if e != api.OK || len(b) == 0 {
		return nil, nil, api.ErrArg
	}
	q, r = divided(a, b)
	return q, r, api.OK
}

// Sqrt answers the greatest number whose square is not above a, and what is left of a then.
func Sqrt(a []uint64) (root, rest []uint64, e api.Errno) {
	a, e = taken(a)
	if e != api.OK {
		return nil, nil, e
	}
	root, rest = rooted(a)
	return root, rest, api.OK
}

// divided divides a by b, which is not 0.
func divided(a, b []uint64) (q, r []uint64) {
	n := len(b)
	if len(a) < n {
		return nil, clone(a)
	}
	q = make([]uint64, len(a)-n+1)
	if n == 1 {
		return divideByLimb(q, a, b[0])
	}
	// Both are shifted till b's highest bit stands at the end of its limb: an estimate by two limbs is then too great by one at most.
	shift := bits.LeadingZeros64(b[n-1])
	rest, divisor := shiftedUp(a, shift), shiftedUp(b, shift)
	if len(rest) == len(a) {
		rest = append(rest, 0)
	}
	for k := range len(q) {
		i := len(q) - 1 - k
		q[i] = takeMost(rest[i:i+n+1], divisor)
	}
	return trim(q), shiftedDown(trim(rest), shift)
}

func divideByLimb(q, a []uint64, d uint64) ([]uint64, []uint64) {
	rest := quotients(q, a, d)
	return trim(q), Of(rest)
}

// quotients sets q, which may be a, to a divided by d, and answers the rest.
func quotients(q, a []uint64, d uint64) (rest uint64) {
	for k := range len(a) {
		i := len(a) - 1 - k
		q[i], rest = bits.Div64(rest, a[i], d)
	}
	return rest
}

// takeMost takes b off the rest as often as can be, and answers how often. The rest has one limb more than b, and is below b times 2^64.
func takeMost(rest, b []uint64) uint64 {
	n := len(b)
	times := estimate([3]uint64{rest[n], rest[n-1], rest[n-2]}, [2]uint64{b[n-1], b[n-2]})
	if takeTimes(rest, b, times) {
		times--
		giveBack(rest, b)
	}
	return times
}

// estimate tells how often b's two highest limbs are in the three of the rest (the highest first in both), or one more.
func estimate(rest [3]uint64, b [2]uint64) uint64 {
	var times, left uint64
	if rest[0] < b[0] {
		times, left = bits.Div64(rest[0], rest[1], b[0])
	} else { // the quotient of the highest limbs would not fit: it is the greatest limb
		var over uint64
		times = math.MaxUint64
		left, over = bits.Add64(rest[1], b[0], 0)
		if over != 0 {
			return times
		}
	}
again:
	high, low := bits.Mul64(times, b[1])
	if high > left || high == left && low > rest[2] {
		times--
		left += b[0]
		if left >= b[0] { // what is left goes on in one limb: it may still be too little
			goto again
		}
	}
	return times
}

// takeTimes takes b times the factor off the rest, and tells if it went below 0.
func takeTimes(rest, b []uint64, factor uint64) bool {
	var carry uint64
	take := func(x, y uint64) uint64 {
		high, low := bits.Mul64(y, factor)
		low, one := bits.Add64(low, carry, 0)
		x, borrow := bits.Sub64(x, low, 0)
		carry = high + one + borrow
		return x
	}
	for i := range len(b) {
		rest[i] = take(rest[i], b[i])
	}
	top := rest[len(b)]
	rest[len(b)] = top - carry
	return top < carry
}

// giveBack adds b to the rest; the carry out of its highest limb makes good what went below 0.
func giveBack(rest, b []uint64) {
	var carry uint64
	add := func(x, y uint64) (z uint64) {
		z, carry = bits.Add64(x, y, carry)
		return z
	}
	for i := range len(rest) {
		rest[i] = add(rest[i], limb(b, i))
	}
}

// rooted answers a's root and what is left. The root of a's upper half is the root's upper half, and what is left there, divided by twice that,
// its lower half: what was left out is that half's square, which makes the root too great by one at most.
func rooted(a []uint64) (root, rest []uint64) {
	if len(a) <= 1 {
		return rootOfLimb(limb(a, 0))
	}
	quarter := (bitsOf(a) - 1) / 4
	root, rest = rooted(shiftedDown(a, 2*quarter))
	lower := lowest(a, 2*quarter)
	q, r := divided(sum(shiftedUp(rest, quarter), shiftedDown(lower, quarter)), shiftedUp(root, 1))
	root = sum(shiftedUp(root, quarter), q)
	rest = sum(shiftedUp(r, quarter), lowest(lower, quarter))
	square := product(q, q)
	if compare(rest, square) < 0 {
		root = difference(root, Of(1))
		rest = sum(rest, sum(shiftedUp(root, 1), Of(1)))
	}
	return root, difference(rest, square)
}

func rootOfLimb(n uint64) (root, rest []uint64) {
	var most uint64
	for k := range limbSize / 2 {
		next := most | 1<<(limbSize/2-1-k)
		if next*next <= n {
			most = next
		}
	}
	return Of(most), Of(n - most*most)
}
