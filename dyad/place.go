package dyad

import (
	"plumbline/api"
	"plumbline/nat"
)

// mostBits is how many bits a number of nat has at most.
const mostBits = 64 * api.MaxLimbs

// place is where numbers are brought to: a step there is 2^at.
type place struct{ at int }

// steps is a size: whole steps of a place, and half a one.
type steps struct {
	whole []uint64
	half  bool
}

// pair is two normal numbers, neither of which is 0, and the place where they are brought together.
type pair struct {
	place
	a, b api.Dyad
}

// pairOf chooses the place of the lowest bit of both. Where a size, or the sum, may have a bit too many for nat there, it is the place above: that bit may be lost by a subtraction, or the sum may be even.
func pairOf(a, b api.Dyad) pair {
	at := min(a.E, b.E)
	if max(height(a), height(b))-at >= mostBits {
		at++
	}
	return pair{place{at}, a, b}
}

// height answers the least k for which the number's size is below 2^k.
func height(d api.Dyad) int {
	n, _ := nat.Bits(d.M)
	return d.E + n
}

// total answers both numbers together, normal. What is refused is too great: a size that has too many whole steps stands so far above the other one that this can't take enough off, nor make the lowest bit 0.
func (p pair) total() (api.Dyad, api.Errno) {
	bring := p.bring
	a, e := bring(p.a)
	b, f := bring(p.b)
	if e != api.OK || f != api.OK {
		return api.Dyad{}, api.ErrLong
	}
	if p.a.Neg == p.b.Neg {
		both, e := a.and(b)
		if e != api.OK {
			return api.Dyad{}, e
		}
		return p.number(p.a.Neg, both)
	}
	if left, e := a.less(b); e == api.OK {
		return p.number(p.a.Neg, left)
	}
	left, _ := b.less(a)
	return p.number(p.b.Neg, left)
}

// bring answers d's size in steps of the place, which stands above d's lowest bit by one at most.
func (p place) bring(d api.Dyad) (s steps, e api.Errno) {
	switch {
	case d.E < p.at:
		s.whole, s.half, e = nat.Shr(d.M, p.at-d.E)
	case d.E == p.at:
		s.whole = d.M
	default:
		s.whole, e = nat.Shl(d.M, d.E-p.at)
	}
	return s, e
}

// number answers the number of so many steps, normal.
func (p place) number(neg bool, s steps) (api.Dyad, api.Errno) {
	if !s.half {
		return normal(api.Dyad{Neg: neg, M: s.whole, E: p.at}), api.OK
	}
	size, e := nat.Shl(s.whole, 1)
	if e != api.OK {
		return api.Dyad{}, e
	}
	size, e = nat.Add(size, nat.Of(1))
	return api.Dyad{Neg: neg, M: size, E: p.at - 1}, e
}

// and answers s and t together.
func (s steps) and(t steps) (steps, api.Errno) {
	whole, e := nat.Add(s.whole, t.carried(s.half && t.half))
	return steps{whole, s.half != t.half}, e
}

// less answers s less t, or api.ErrArg, if that is below 0.
func (s steps) less(t steps) (steps, api.Errno) {
	whole, e := nat.Sub(s.whole, t.carried(t.half && !s.half))
	return steps{whole, s.half != t.half}, e
}

// carried answers the whole steps, and one more, if there is a carry. There is one just beside half a step: the whole ones have room for it then, having lost a bit.
func (s steps) carried(carry bool) []uint64 {
	if !carry {
		return s.whole
	}
	more, _ := nat.Add(s.whole, nat.Of(1))
	return more
}
