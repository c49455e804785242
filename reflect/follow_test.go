package reflect_test

import (
	"math"
	"testing"

	"plumbline/api"
	"plumbline/dyad"
	"plumbline/reflect"
)

// exact are exact numbers' operations, of which none may fail.
type exact struct{ t *testing.T }

func (x exact) sure(d api.Dyad, e api.Errno) api.Dyad {
	x.t.Helper()
	if e != api.OK {
		x.t.Fatal(e)
	}
	return d
}

func (x exact) of(f float64) api.Dyad        { return x.sure(dyad.Of(f)) }
func (x exact) mul(a, b api.Dyad) api.Dyad   { return x.sure(dyad.Mul(a, b)) }
func (x exact) sub(a, b api.Dyad) api.Dyad   { return x.sure(dyad.Sub(a, b)) }
func (x exact) dot(a, b []api.Dyad) api.Dyad { return x.sure(dyad.Dot(a, b)) }

func (x exact) all(l []float64) []api.Dyad {
	var d []api.Dyad
	for _, f := range l {
		d = append(d, x.of(f))
	}
	return d
}

// squares is the sum of all squares.
func (x exact) squares(l []api.Dyad) api.Dyad { return x.dot(l, l) }

// bound is (64 n u)^2.
func (x exact) bound(n int) api.Dyad {
	return x.sure(dyad.Shift(dyad.Whole(int64(api.Factor*api.Factor*n*n)), 2*api.UnitPower))
}

func (x exact) atMost(call string, a, b api.Dyad, l []float64) {
	x.t.Helper()
	if order, e := dyad.Cmp(a, b); e != api.OK || order > 0 {
		s, _ := dyad.Float(a)
		m, _ := dyad.Float(b)
		x.t.Fatalf("%s of %x: %g, above %g %v", call, l, s, m, e)
	}
}

// rows are those of I - Tau v v'.
func (x exact) rows(h api.Reflection) [][]api.Dyad {
	v, tau := x.all(h.V), x.of(h.Tau)
	l := make([][]api.Dyad, len(v))
	for i := range v {
		for j := range v {
			l[i] = append(l[i], x.sub(one(i == j), x.mul(tau, x.mul(v[i], v[j]))))
		}
	}
	return l
}

// one is 1 on the diagonal, else 0.
func one(diagonal bool) api.Dyad {
	if diagonal {
		return dyad.Whole(1)
	}
	return dyad.Whole(0)
}

// turns expects what P9.4 promises of the column l.
func (x exact) turns(l []float64) {
	x.t.Helper()
	n := len(l)
	h, beta, e := reflect.Make(l...)
	if e != api.OK {
		x.t.Fatal(e)
	}
	a, e := reflect.Left(matrix(n, 1, l...), 0, 0, h)
	if e != api.OK {
		x.t.Fatal(e)
	}
	off := x.all(a.Data)
	off[0] = x.sub(off[0], x.of(beta))
	x.atMost("Left", x.squares(off), x.mul(x.bound(n), x.squares(x.all(l))), l)
	rows := x.rows(h)
	off = nil
	for i := range rows { // H turned is H
		for j := range rows {
			off = append(off, x.sub(x.dot(rows[i], rows[j]), one(i == j)))
		}
	}
	x.atMost("Make", x.squares(off), x.bound(n), l)
}

// ranged answers floats from 2^low to 2^high by their sizes, some of them noughts if wanted.
func ranged(seed uint64, low, high int, noughts bool) func() float64 {
	next := stream(seed)
	return func() float64 {
		size := math.Ldexp(1+float64(next()>>12)*step, low+below(next, high-low))
		switch below(next, 12) {
		case 0:
			size = math.Ldexp(1, low)
		case 1:
			size = math.Ldexp(1, high)
		case 2, 3:
			if noughts {
				size = 0
			}
		}
		return math.Copysign(size, float64(int64(next())))
	}
}

// P9.4: of 1 to 16 floats in range.
func TestReflectionIsGood(t *testing.T) {
	x := exact{t}
	for n := 1; n <= 16; n++ {
		for i, source := range []func() float64{
			ranged(22, -100, 100, false), ranged(23, -100, 100, true), ranged(24, -2, 2, false), ranged(25, -2, 2, true),
			ranged(26, -30, 30, false), ranged(27, -100, -99, true), ranged(28, 99, 100, false),
		} {
			for range 6 - i/3 {
				x.turns(many(n, source))
			}
		}
	}
}

// P9.4: the ends of the range, beside each other, and beside noughts.
func TestReflectionAtTheEnds(t *testing.T) {
	x := exact{t}
	ends := withSigns(0, 0x1p-100, 0x1p-100+0x1p-152, 0x1p-47, 1, 0x1p26, 0x1p100-0x1p47, 0x1p100)
	for n := 1; n <= 16; n += 3 {
		for _, first := range ends {
			for _, other := range ends {
				l := many(n, func() float64 { return other })
				l[0] = first
				x.turns(l)
			}
		}
	}
	for _, first := range ends {
		for _, second := range ends {
			for _, third := range ends {
				x.turns(few(first, second, third))
			}
		}
	}
}

// Whatever comes in, each call ends, and answers the same again.
func TestSameAgain(t *testing.T) {
	for _, source := range sources(29) {
		for n := 1; n < 7; n++ {
			a, l := anyMatrix(n, n, source), anyReflections(n, n, source)
			left(a, 0, 0, l[0]).is(t, "Left", left(a, 0, 0, l[0]).a)
			right(a, 0, 0, l[0]).is(t, "Right", right(a, 0, 0, l[0]).a)
			factor(l...).is(t, "Factor", factor(l...).a)
			block(a, a, l...).is(t, "Block", block(a, a, l...).a)
		}
	}
}
