package soft

import (
	"plumbline/api"
	"plumbline/bits"
	"plumbline/dyad"
)

// The classes that make a difference here. Among the finite floats that are not 0 there is none: their exact numbers tell all.
const (
	zero     = api.ClassZero
	nonzero  = api.ClassNormal
	infinity = api.ClassInf
	nan      = api.ClassNaN
)

// Words of the classes that have one size each.
const (
	infinityWord uint64 = 0x7FF << 52
	nanWord      uint64 = 0xFFF << 51
)

// number is what a float stands for, or what an operation comes to ahead of its rounding.
type number struct {
	class api.Class
	neg   bool     // a zero's, an infinity's too
	exact api.Dyad // 0 of all classes but nonzero
}

// of answers the float's number.
func of(f float64) number {
	w := bits.Of(f)
	n := number{class: bits.Class(w), neg: w>>63 == 1}
	if d, e := dyad.Of(f); e == api.OK && n.class != zero {
		n.class, n.exact = nonzero, d
	}
	return n
}

// exactly answers the dyad's number; 0, not -0, of the number 0.
func exactly(d api.Dyad) number {
	if dyad.Sign(d) == 0 {
		return number{class: zero}
	}
	return number{class: nonzero, neg: d.Neg, exact: d}
}

// float answers the number, rounded.
func (n number) float() float64 {
	var w uint64
	switch n.class {
	case nonzero:
		f, _ := dyad.Float(n.exact)
		return f
	case infinity:
		w = infinityWord
	case nan:
		w = nanWord
	}
	if n.neg {
		w = bits.Negate(w)
	}
	return bits.Float(w)
}
