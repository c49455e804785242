package bits

import (
	mathbits "math/bits"

	"plumbline/api"
)

// Beyond these bounds an exponent makes no difference any more: all numbers but 0 are infinities, or zeros, there. So sums of exponents don't wrap round.
const (
	farExp   = 1 << 11
	farScale = 1 << 12
)

// Parts cuts a finite word.
func Parts(w uint64) (api.Parts, api.Errno) {
	p := api.Parts{Neg: w&signBit != 0}
	switch Class(w) {
	case api.ClassZero:
	case api.ClassSub:
		p.Man, p.Exp = fraction(w), leastExp
	case api.ClassNormal:
		p.Man, p.Exp = hiddenBit|fraction(w), field(w)-1+leastExp
	default:
		return api.Parts{}, api.ErrArg
	}
	return p, api.OK
}

// Exact answers the word whose number is just that of p.
func Exact(p api.Parts) (uint64, api.Errno) {
	whole, rest, exp := split(p)
	w := join(p.Neg, whole, exp)
	if rest != 0 || Class(w) == api.ClassInf {
		return 0, api.ErrNone
	}
	return w, api.OK
}

// Round answers the word that is nearest to p's number, or, if more, to any number between that and the one with Man and 1.
func Round(p api.Parts, more bool) (uint64, api.Errno) {
	if more && p.Man < 2*hiddenBit && p.Exp >= leastExp {
		return 0, api.ErrArg
	}
	whole, rest, exp := split(p)
	const half = 1 << 63
	if rest > half || rest == half && (more || whole&1 == 1) {
		whole++
	}
	return join(p.Neg, whole, exp), api.OK
}

// Scale answers the word's number times 2^k, rounded.
func Scale(w uint64, k int) uint64 {
	p, e := Parts(w)
	if e != api.OK {
		return oneNaN(w)
	}
	p.Exp += min(max(k, -farScale), farScale)
	scaled, _ := Round(p, false)
	return scaled
}

// split cuts p's number where a float that is as great has its last bit, at 2^exp: whole stands above the cut, rest is what's below, in parts of 2^-64; where these are too coarse, rest is 1 in place of any number below the half.
func split(p api.Parts) (whole, rest uint64, exp int) {
	if p.Man == 0 {
		return 0, 0, leastExp
	}
	from := min(max(p.Exp, -farExp), farExp)
	exp = max(from+mathbits.Len64(p.Man)-fractionSize-1, leastExp)
	switch below := exp - from; {
	case below <= 0:
		return p.Man << -below, 0, exp
	case below <= 64:
		return p.Man >> below, p.Man << (64 - below), exp
	}
	return 0, 1, exp
}

// join puts whole times 2^exp together: whole's bit 52, and what is rounded up to 2^53, raise the field by themselves. With split's greatest exp (below farExp and 64) the sum doesn't wrap round.
func join(neg bool, whole uint64, exp int) uint64 {
	w := min(uint64(exp-leastExp)<<fractionSize+whole, infinity)
	if neg {
		w |= signBit
	}
	return w
}
