package tridiag_test

import (
	"math"
	"testing"

	"plumbline/api"
	"plumbline/dyad"
)

// exact are exact numbers' operations, of which none may fail.
type exact struct{ t *testing.T }

func (x exact) sure(d api.Dyad, e api.Errno) api.Dyad {
	x.t.Helper()
	if e != api.OK {
		x.t.Fatal(e)
	}
	return d
}

func (x exact) sub(a, b api.Dyad) api.Dyad   { return x.sure(dyad.Sub(a, b)) }
func (x exact) dot(a, b []api.Dyad) api.Dyad { return x.sure(dyad.Dot(a, b)) }

func (x exact) of(l []float64) []api.Dyad {
	x.t.Helper()
	var d []api.Dyad
	for _, f := range l {
		d = append(d, x.sure(dyad.Of(f)))
	}
	return d
}

// squares is the sum of all squares.
func (x exact) squares(l []api.Dyad) api.Dyad { return x.dot(l, l) }

// rows are a matrix's, columns those of the turned one.
func (x exact) rows(a api.Matrix) [][]api.Dyad {
	x.t.Helper()
	var l [][]api.Dyad
	for _, row := range rowsOf(a) {
		l = append(l, x.of(row))
	}
	return l
}

func (x exact) columns(a api.Matrix) [][]api.Dyad {
	l := make([][]api.Dyad, a.Cols)
	for _, row := range x.rows(a) {
		for k, d := range row {
			l[k] = append(l[k], d)
		}
	}
	return l
}

// bound is (64 n n u)^2.
func (x exact) bound(n int) api.Dyad {
	factor := int64(api.Factor * n * n)
	return x.sure(dyad.Shift(dyad.Whole(factor*factor), 2*api.UnitPower))
}

func (x exact) atMost(what string, a api.Matrix, size, bound api.Dyad) {
	x.t.Helper()
	if order, e := dyad.Cmp(size, bound); e != api.OK || order > 0 {
		s, _ := dyad.Float(size)
		b, _ := dyad.Float(bound)
		x.t.Fatalf("%s of %x: %g, above %g %v", what, a, s, b, e)
	}
}

// good expects what P10.4 promises of a symmetric matrix.
func (x exact) good(a api.Matrix) {
	x.t.Helper()
	n := a.Rows
	form := reduce(a)
	turned := q(n, form.l...)
	if form.e != api.OK || turned.e != api.OK || len(form.l) != max(n-2, 0) {
		x.t.Fatal(form.e, turned.e, len(form.l))
	}
	matrixRows, formRows := x.rows(a), x.rows(tridiagonal(form.t)) // their columns are the same
	qRows, qColumns := x.rows(turned.a), x.columns(turned.a)
	one := x.rows(unit(n))
	var off, apart []api.Dyad
	for i := range n {
		for k := range n {
			off = append(off, x.sub(x.dot(matrixRows[i], qColumns[k]), x.dot(qRows[i], formRows[k])))
			apart = append(apart, x.sub(x.dot(qColumns[i], qColumns[k]), one[i][k]))
		}
	}
	size := x.squares(x.of(a.Data))
	x.atMost("A Q - Q T", a, x.squares(off), x.sure(dyad.Mul(x.bound(n), size)))
	x.atMost("Q' Q - I", a, x.squares(apart), x.bound(n))
}

// ranged answers floats from 2^low to 2^high by their sizes, of 12 so many noughts.
func ranged(seed uint64, low, high, noughts int) func() float64 {
	next := stream(seed)
	return func() float64 {
		size := math.Ldexp(1+float64(next()>>12)*step, low+under(next, high-low))
		switch chance := under(next, 12); {
		case chance < noughts:
			size = 0
		case chance == 10:
			size = math.Ldexp(1, low)
		case chance == 11:
			size = math.Ldexp(1, high)
		}
		return math.Copysign(size, float64(int64(next())))
	}
}

// P10.4: n from 1 to 6, entries near each other and far apart, few noughts and many.
func TestFormIsGood(t *testing.T) {
	x := exact{t}
	for n := 1; n <= 6; n++ {
		for _, source := range []func() float64{
			ranged(22, -100, 100, 0), ranged(23, -100, 100, 3), ranged(24, -100, 100, 8), ranged(25, -2, 2, 0), ranged(26, -2, 2, 4),
			ranged(27, -30, 30, 0), ranged(28, -30, 30, 8), ranged(29, -100, -99, 2), ranged(30, 99, 100, 2), ranged(31, 0, 1, 10),
		} {
			for range 12 {
				x.good(symmetric(n, source))
			}
		}
	}
}

// P10.4: the ends of the range beside each other, and beside noughts: all matrices of three rows that have these alone.
func TestFormAtTheEnds(t *testing.T) {
	x := exact{t}
	ends := few(0, 0x1p-100, -1, 0x1p100)
	for which := range 1 << 12 { // two bits for each of six entries
		bits := which
		x.good(symmetric(3, func() float64 {
			end := ends[bits&3]
			bits >>= 2
			return end
		}))
	}
	for _, end := range withSigns(0, 0x1p-100, 0x1p100) {
		for n := 1; n <= 6; n++ {
			x.good(symmetric(n, func() float64 { return end }))
			i := 0
			x.good(symmetric(n, func() float64 { i++; return few(end, 1, -0x1p100, 0x1p-100)[i%4] }))
		}
	}
}

// P10.4: what has the form already, what is diagonal, and what is nearly of one rank.
func TestFormOfSpecial(t *testing.T) {
	x := exact{t}
	source := ranged(32, -100, 100, 2)
	for n := 1; n <= 6; n++ {
		for range 6 {
			r := anyTri(n, source)
			x.good(tridiagonal(r))
			x.good(tridiagonal(tri(r.D, make([]float64, n-1)...)))
			l := many(n, ranged(33, -50, 50, 1))
			a := noughts(n, n)
			for i := range n {
				for k := range n {
					a.Data[i*n+k] = l[i] * l[k]
				}
			}
			x.good(a)
		}
		x.good(noughts(n, n))
		x.good(unit(n))
	}
}
