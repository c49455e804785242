package reflect_test

import (
	"testing"

	"plumbline/api"
)

// onBothSides expects what the chapter's words make of it: Left, and Right of the matrix turned.
func onBothSides(t *testing.T, a api.Matrix, at, from int, h api.Reflection) {
	t.Helper()
	left(a, at, from, h).is(t, "Left", leftOf(a, at, from, h))
	b := turned(a)
	right(b, at, from, h).is(t, "Right", rightOf(b, at, from, h))
}

// turned has the columns of a as its rows.
func turned(a api.Matrix) api.Matrix {
	b := matrix(a.Cols, a.Rows)
	for k := range a.Cols {
		for i := range a.Rows {
			b.Data = append(b.Data, entry(a, i, k))
		}
	}
	return b
}

// eachPlace goes over all places that fit a matrix of that shape, for reflections of n entries.
func eachPlace(rows, cols int, do func(at, from, n int)) {
	for n := 1; n <= rows; n++ {
		for at := 0; at+n <= rows; at++ {
			for from := range cols + 1 {
				do(at, from, n)
			}
		}
	}
}

// P9.2, P0.5, P0.9: all small shapes, and all places that fit, whatever floats.
func TestEachPlace(t *testing.T) {
	for _, source := range sources(4) {
		for rows := range 5 {
			for cols := range 5 {
				eachPlace(rows, cols, func(at, from, n int) {
					onBothSides(t, anyMatrix(rows, cols, source), at, from, reflection(source(), many(n, source)...))
				})
			}
		}
	}
}

// P9.2: Tau of each kind; v beginning with 1, and with what else is handed in.
func TestEachTau(t *testing.T) {
	for _, source := range sources(5) {
		for _, tau := range append(edges(), 1.6, 2, -0.3) {
			h := reflection(tau, many(4, source)...)
			onBothSides(t, anyMatrix(6, 5, source), 1, 2, h)
			h.V[0] = 1
			onBothSides(t, anyMatrix(6, 5, source), 2, 1, h)
		}
	}
}

// P9.2: longer sums, and the greatest size.
func TestLongTurns(t *testing.T) {
	for _, source := range sources(6) {
		onBothSides(t, anyMatrix(300, 3, source), 7, 1, reflection(1.3, many(290, source)...))
		onBothSides(t, anyMatrix(2, 300, source), 0, 250, reflection(-0.7, many(2, source)...))
		onBothSides(t, anyMatrix(api.MaxSize, 1, source), 0, 0, reflection(0.9, many(api.MaxSize, source)...))
	}
	source := sources(7)[0]
	a := anyMatrix(api.MaxSize, api.MaxSize, source)
	onBothSides(t, a, 500, 505, reflection(1.1, many(12, source)...))
	onBothSides(t, a, api.MaxSize-1, api.MaxSize, reflection(1.1, 1))
}

// The order is to be seen, and so would a fused sum or difference be.
func TestTurnsByHand(t *testing.T) {
	for _, x := range []struct {
		tau        float64
		v, a, want []float64
	}{
		{1.6, few(1, 0.5), few(3, 4), few(-5, 0)},
		{1, few(1, -1), few(3, 4), few(4, 3)},
		{2, few(1, 0, 0), few(3, 4, 5), few(-3, 4, 5)},
		{1, few(1, 1, 1), few(0x1p53, 1, 1), few(0, 1-0x1p53, 1-0x1p53)},
		{1, few(1, 1, 1), few(1, 1, 0x1p53), few(-0x1p53, -0x1p53, -2)},
		{0x1p104, few(1, 1-step), few(-1, 1+step), few(-1, 1+step)},
		{1, few(1, 1+step), few(-2*step, 1), few(-1-step, 0)},
		{1, few(1), few(minus), few(minus)}, // the sum begins with 0
		{-1, few(1), few(minus), few(0)},
		{1, few(1), few(5), few(0)},
		{1, few(0, 2), few(nan, 1), few(nan, nan)},
		{1, few(0, 2), few(7, 1), few(7, -3)},
		{2, few(0x1p600, 0x1p600), few(0x1p600, -0x1p600), few(nan, nan)},
		{nan, few(1, 0), few(3, 4), few(nan, nan)},
		{inf, few(1, 1), few(1, -1), few(nan, nan)},
		{inf, few(1, 0), few(1, 4), few(-inf, nan)},
	} {
		h, n := reflection(x.tau, x.v...), len(x.v)
		left(matrix(n, 1, x.a...), 0, 0, h).is(t, "Left", matrix(n, 1, x.want...))
		right(matrix(1, n, x.a...), 0, 0, h).is(t, "Right", matrix(1, n, x.want...))
	}
}

// P9.2: with a Tau of 0, of either sign, all stays as it was, also NaNs, infinities, and -0.
func TestTauZero(t *testing.T) {
	for _, tau := range few(0, minus) {
		for _, source := range append(sources(8), func() float64 { return nan }, func() float64 { return minus }, func() float64 { return inf }) {
			for _, v := range [][]float64{few(1, 2, 3), few(1, nan, inf), few(minus, -inf, 0)} {
				a, h := anyMatrix(4, 3, source), reflection(tau, v...)
				left(a, 1, 0, h).is(t, "Left", a)
				right(a, 0, 1, h).is(t, "Right", a)
			}
		}
	}
}

// P9.2: what lies outside of the reflected part stays, bit by bit, and is not read.
func TestOutsideStays(t *testing.T) {
	source := sources(9)[0]
	eachPlace(5, 4, func(at, from, n int) {
		a, h := anyMatrix(5, 4, source), reflection(1.2, many(n, source)...)
		inside := func(i, k int) bool { return at <= i && i < at+n && from <= k }
		for i := range a.Rows {
			for k := range a.Cols {
				if !inside(i, k) {
					a.Data[i*a.Cols+k] = few(nan, inf, minus, -inf)[(i+k)%4]
				}
			}
		}
		one, other := left(a, at, from, h), right(turned(a), at, from, h)
		one.fails(t, "Left", api.OK)
		other.is(t, "Right", turned(one.a))
		for i := range a.Rows {
			for k := range a.Cols {
				x, y := entry(a, i, k), entry(one.a, i, k)
				if inside(i, k) == alike(x, y) || inside(i, k) && y != y {
					t.Fatalf("%d, %d, of %d, %d, %d: %x, %x", i, k, at, from, n, x, y)
				}
			}
		}
	})
}

// P9.2: nothing to reflect: from at the last column or row; matrices of no columns, of no rows.
func TestNothingToTurn(t *testing.T) {
	h := reflection(nan, nan, nan)
	a := matrix(2, 3, 1, nan, 3, 4, minus, 6)
	left(a, 0, 3, h).is(t, "Left", a)
	right(turned(a), 0, 3, h).is(t, "Right", turned(a))
	left(matrix(3, 0), 1, 0, h).is(t, "Left", matrix(3, 0))
	right(matrix(0, 3), 1, 0, h).is(t, "Right", matrix(0, 3))
}

// P9.2: a reflection twice, of whole numbers that are exact, is none.
func TestTwice(t *testing.T) {
	h := reflection(0.5, 1, -1, 1, 1)
	a := anyMatrix(5, 4, sources(10)[3])
	for i := range a.Data {
		a.Data[i] *= 4
	}
	once := left(a, 1, 0, h)
	left(once.a, 1, 0, h).is(t, "Left", a)
	once = right(turned(a), 1, 0, h)
	right(once.a, 1, 0, h).is(t, "Right", turned(a))
}
