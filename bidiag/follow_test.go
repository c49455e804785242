package bidiag_test

import (
	"math"
	"testing"

	"plumbline/api"
	"plumbline/dyad"
)

// exact are exact numbers' operations, of which none may fail.
type exact struct{ t *testing.T }

func (x exact) sure(d api.Dyad, e api.Errno) api.Dyad {
	x.t.Helper()
	if e != api.OK {
		x.t.Fatal(e)
	}
	return d
}

func (x exact) sub(a, b api.Dyad) api.Dyad   { return x.sure(dyad.Sub(a, b)) }
func (x exact) dot(a, b []api.Dyad) api.Dyad { return x.sure(dyad.Dot(a, b)) }

func (x exact) of(l []float64) []api.Dyad {
	x.t.Helper()
	var d []api.Dyad
	for _, f := range l {
		d = append(d, x.sure(dyad.Of(f)))
	}
	return d
}

// squares is the sum of all squares.
func (x exact) squares(l []api.Dyad) api.Dyad { return x.dot(l, l) }

// rows are a matrix's, columns those of the turned one.
func (x exact) rows(a api.Matrix) [][]api.Dyad {
	x.t.Helper()
	var l [][]api.Dyad
	for _, row := range rowsOf(a) {
		l = append(l, x.of(row))
	}
	return l
}

func (x exact) columns(a api.Matrix) [][]api.Dyad { return x.rows(turned(a)) }

// bound is (64 m n u)^2, m and n being 1, if 0.
func (x exact) bound(m, n int) api.Dyad {
	factor := int64(api.Factor * max(m, 1) * max(n, 1))
	return x.sure(dyad.Shift(dyad.Whole(factor*factor), 2*api.UnitPower))
}

func (x exact) atMost(what string, a api.Matrix, size, bound api.Dyad) {
	x.t.Helper()
	if order, e := dyad.Cmp(size, bound); e != api.OK || order > 0 {
		s, _ := dyad.Float(size)
		b, _ := dyad.Float(bound)
		x.t.Fatalf("%s of %x: %g, above %g %v", what, a, s, b, e)
	}
}

// apart is the sum of squares of a matrix turned, times itself, less I.
func (x exact) apart(a api.Matrix) api.Dyad {
	x.t.Helper()
	columns, one := x.columns(a), x.rows(unit(a.Cols, a.Cols))
	var off []api.Dyad
	for i := range columns {
		for k := range columns {
			off = append(off, x.sub(x.dot(columns[i], columns[k]), one[i][k]))
		}
	}
	return x.squares(off)
}

// off is the sum of squares of a p less q b.
func (x exact) off(a, p, q, b api.Matrix) api.Dyad {
	x.t.Helper()
	var off []api.Dyad
	pColumns, bColumns, qRows := x.columns(p), x.columns(b), x.rows(q)
	for i, row := range x.rows(a) {
		for k := range pColumns {
			off = append(off, x.sub(x.dot(row, pColumns[k]), x.dot(qRows[i], bColumns[k])))
		}
	}
	return x.squares(off)
}

// good expects what P11.4 promises of a matrix.
func (x exact) good(a api.Matrix) {
	x.t.Helper()
	m, n := a.Rows, a.Cols
	form := reduce(a)
	left, right := q(m, n, form.h...), p(n, form.g...)
	if form.e != api.OK || left.e != api.OK || right.e != api.OK || len(form.b.D) != n {
		x.t.Fatal(form.e, left.e, right.e, form.b)
	}
	size := x.squares(x.of(a.Data))
	x.atMost("A P - Q B", a, x.off(a, right.a, left.a, bidiagonal(n, form.b)), x.sure(dyad.Mul(x.bound(m, n), size)))
	x.atMost("Q' Q - I", a, x.apart(left.a), x.bound(m, n))
	x.atMost("P' P - I", a, x.apart(right.a), x.bound(m, n))
}

// ranged answers floats from 2^low to 2^high by their sizes, of 12 so many noughts.
func ranged(seed uint64, low, high, noughts int) func() float64 {
	next := stream(seed)
	return func() float64 {
		size := math.Ldexp(1+float64(next()>>12)*step, low+under(next, high-low))
		switch chance := under(next, 12); {
		case chance < noughts:
			size = 0
		case chance == 10:
			size = math.Ldexp(1, low)
		case chance == 11:
			size = math.Ldexp(1, high)
		}
		return math.Copysign(size, float64(int64(next())))
	}
}

// P11.4: up to 6 rows and columns, entries near each other and far apart, few noughts and many.
func TestFormIsGood(t *testing.T) {
	x := exact{t}
	for _, source := range []func() float64{
		ranged(28, -100, 100, 0), ranged(29, -100, 100, 3), ranged(30, -100, 100, 8), ranged(31, -2, 2, 0), ranged(32, -2, 2, 4),
		ranged(33, -30, 30, 0), ranged(34, -30, 30, 8), ranged(35, -100, -99, 2), ranged(36, 99, 100, 2), ranged(37, 0, 1, 10),
	} {
		eachShape(6, func(m, n int) {
			for range 8 {
				x.good(anyMatrix(m, n, source))
			}
		})
	}
}

// P11.4: the ends of the range beside each other, and beside noughts: all matrices of three rows and two columns that have these alone.
func TestFormAtTheEnds(t *testing.T) {
	x := exact{t}
	ends := few(0, 0x1p-100, -1, 0x1p100)
	for which := range 1 << 12 { // two bits for each of six entries
		bits := which
		x.good(anyMatrix(3, 2, func() float64 {
			end := ends[bits&3]
			bits >>= 2
			return end
		}))
	}
	for _, end := range withSigns(0, 0x1p-100, 0x1p100) {
		eachShape(6, func(m, n int) {
			x.good(anyMatrix(m, n, func() float64 { return end }))
			i := 0
			x.good(anyMatrix(m, n, func() float64 { i++; return few(end, 1, -0x1p100, 0x1p-100)[i%4] }))
		})
	}
}

// P11.4: what has the form already, what is diagonal, and what is nearly of one rank.
func TestFormOfSpecial(t *testing.T) {
	x := exact{t}
	source, other := ranged(38, -100, 100, 2), ranged(39, -50, 50, 1)
	eachShape(6, func(m, n int) {
		for range 4 {
			b := anyBi(n, source)
			x.good(bidiagonal(m, b))
			x.good(bidiagonal(m, bi(b.D)))
			down, along := many(m, other), many(n, other)
			a := noughts(m, n)
			for i := range m {
				for k := range n {
					a.Data[i*n+k] = down[i] * along[k]
				}
			}
			x.good(a)
		}
		x.good(noughts(m, n))
		x.good(unit(m, n))
	})
}
