package soft

import (
	"plumbline/api"
	"plumbline/bits"
	"plumbline/dyad"
	"plumbline/nat"
)

const (
	limbBits = 64
	// mostBits is how many bits a size has at most that is divided, or whose root is taken: those of 2048 limbs.
	mostBits = 2048 * limbBits
)

// Quot answers a by b, rounded.
func Quot(a, b api.Dyad) (float64, api.Errno) {
	switch {
	case !dyad.May(a) || !dyad.May(b):
		return 0, api.ErrArg
	case dyad.Sign(b) == 0:
		return 0, api.ErrZero
	case bitsOf(a) > mostBits || bitsOf(b) > mostBits:
		return 0, api.ErrLong
	case dyad.Sign(a) == 0:
		return 0, api.OK
	}
	// With 63 bits more than b has, a by b lies between 2^62 and 2^64: it is one limb, whose bits are enough to round by.
	up := bitsOf(b) + limbBits - 1 - bitsOf(a)
	size, lost := brought(a.M, up)
	quotient, rest, _ := nat.Div(size, b.M)
	return rounded(a.Neg != b.Neg, quotient, a.E-b.E-up, lost || len(rest) > 0)
}

// Root answers a's root, rounded.
func Root(a api.Dyad) (float64, api.Errno) {
	sign := dyad.Sign(a)
	switch {
	case !dyad.May(a) || sign < 0:
		return 0, api.ErrArg
	case bitsOf(a) > mostBits:
		return 0, api.ErrLong
	case sign == 0:
		return 0, api.OK
	}
	// With the bits of two limbs, or with one less where the place would be odd (that has no half), the root is one limb, and has all of its bits.
	up := 2*limbBits - bitsOf(a)
	up -= (a.E - up) & 1
	size, lost := brought(a.M, up)
	root, rest, _ := nat.Sqrt(size)
	return rounded(false, root, (a.E-up)/2, lost || len(rest) > 0)
}

func bitsOf(d api.Dyad) int {
	n, _ := nat.Bits(d.M)
	return n
}

// brought answers the size times 2^up, cut off below 1, and tells if something is lost there. How much makes no difference: less than 1 brings neither a quotient nor a root to the next whole number.
func brought(size []uint64, up int) (whole []uint64, lost bool) {
	if up < 0 {
		whole, lost, _ = nat.Shr(size, -up)
		return whole, lost
	}
	whole, _ = nat.Shl(size, up)
	return whole, false
}

// rounded answers the float nearest to the number of one limb times 2^at, or, if more, to what lies between that and the next one. It makes no dyad: at may be beyond MaxExp.
func rounded(neg bool, limb []uint64, at int, more bool) (float64, api.Errno) {
	w, e := bits.Round(api.Parts{Neg: neg, Man: limb[0], Exp: at}, more)
	return bits.Float(w), e
}
