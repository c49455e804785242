package bidiag_test

import (
	"testing"

	"plumbline/api"
	"plumbline/kernels"
	"plumbline/view"
)

// P11.3, P0.9: whatever floats, also such as are not finite; -0 stays.
func TestFull(t *testing.T) {
	for _, source := range append(wild(17), func() float64 { return minus }, func() float64 { return nan }) {
		for n := range 9 {
			b := anyBi(n, source)
			full(b).is(t, "Full", bidiagonal(n, b))
		}
		b := anyBi(api.MaxSize, source)
		full(b).is(t, "Full", bidiagonal(api.MaxSize, b))
	}
}

// P11.3
func TestFullByHand(t *testing.T) {
	full(api.Bi{}).is(t, "Full", noughts(0, 0))
	full(bi(few())).is(t, "Full", noughts(0, 0))
	full(bi(few(), few()...)).is(t, "Full", noughts(0, 0))
	full(bi(few(7))).is(t, "Full", matrix(1, 1, 7))
	full(bi(few(7), few()...)).is(t, "Full", matrix(1, 1, 7))
	full(bi(few(nan))).is(t, "Full", matrix(1, 1, nan))
	full(bi(few(1, 2), 3)).is(t, "Full", matrix(2, 2, 1, 3, 0, 2))
	full(bi(few(1, minus), inf)).is(t, "Full", matrix(2, 2, 1, inf, 0, minus))
	full(bi(few(1, 2, 3), 4, 5)).is(t, "Full", matrix(3, 3, 1, 4, 0, 0, 2, 5, 0, 0, 3))
	full(bi(few(minus, nan, -inf, 9), minus, inf, nan)).is(t, "Full", matrix(4, 4,
		minus, minus, 0, 0, 0, nan, inf, 0, 0, 0, -inf, nan, 0, 0, 0, 9))
}

// products expects what the chapter's words make of three.
func products(t *testing.T, left api.Matrix, b api.Bi, right api.Matrix) {
	t.Helper()
	product(left, b, right).is(t, "Product", productOf(left, b, right))
}

// P11.3, P0.5, P0.9: all small sizes, also of fewer rows than columns, whatever floats.
func TestProduct(t *testing.T) {
	for _, source := range wild(18) {
		for rows := range 6 {
			for n := range 6 {
				for range 4 {
					products(t, anyMatrix(rows, n, source), anyBi(n, source), anyMatrix(n, n, source))
				}
			}
		}
		products(t, anyMatrix(13, 11, source), anyBi(11, source), anyMatrix(11, 11, source))
	}
}

// P11.3: such as can be reckoned without rounding; p is turned.
func TestProductByHand(t *testing.T) {
	product(matrix(0, 0), api.Bi{}, matrix(0, 0)).is(t, "Product", noughts(0, 0))
	product(matrix(3, 0), api.Bi{}, matrix(0, 0)).is(t, "Product", noughts(3, 0))
	product(matrix(0, 2), bi(few(1, 2), 3), noughts(2, 2)).is(t, "Product", noughts(0, 2))
	product(matrix(1, 1, 2), bi(few(3)), matrix(1, 1, 5)).is(t, "Product", matrix(1, 1, 30))
	product(matrix(2, 1, 2, 3), bi(few(5)), matrix(1, 1, 7)).is(t, "Product", matrix(2, 1, 70, 105))
	product(unit(2, 2), bi(few(1, 2), 3), unit(2, 2)).is(t, "Product", matrix(2, 2, 1, 3, 0, 2))
	product(unit(2, 2), bi(few(1, 2), 3), matrix(2, 2, 0, 1, 0, 0)).is(t, "Product", matrix(2, 2, 3, 0, 2, 0))
	product(matrix(1, 2, 1, 10), bi(few(1, 2), 3), matrix(2, 2, 1, 2, 3, 4)).is(t, "Product", matrix(1, 2, 47, 95))
	// A sum begins with 0, and 0 is added to it: no -0 is left.
	product(matrix(1, 1, minus), bi(few(1)), matrix(1, 1, 1)).is(t, "Product", matrix(1, 1, 0))
	// The second product is not added to what the first one was: 0 times an infinity.
	product(matrix(1, 1, inf), bi(few(1)), matrix(1, 1, 1)).is(t, "Product", matrix(1, 1, inf))
	product(matrix(1, 2, inf, 0), bi(few(1, 1), 1), unit(2, 2)).is(t, "Product", matrix(1, 2, nan, nan))
	// 0 times what is not finite counts, also where the bidiagonal has nothing.
	product(matrix(2, 2, 1, inf, 1, 1), bi(few(1, 1), 1), matrix(2, 2, 1, 0, 0, 1)).is(t, "Product", matrix(2, 2, nan, nan, 1, 2))
	// Fused it would be -2^-104.
	product(matrix(1, 2, 1, 1+step), bi(few(0, 1-step), -1), unit(2, 2)).is(t, "Product", matrix(1, 2, 0, 0))
	product(matrix(1, 2, 1, 1+step), bi(few(-1, 1), 0), matrix(2, 2, 1, 1-step, 0, 0)).is(t, "Product", matrix(1, 2, 0, 0))
}

// P11.3: q times the bidiagonal first: the other order is to be seen, and is not what is answered.
func TestProductOrder(t *testing.T) {
	different := 0
	for _, source := range ordinary(19) {
		for range 20 {
			left, b, right := anyMatrix(4, 3, source), anyBi(3, source), anyMatrix(3, 3, source)
			products(t, left, b, right)
			if !same(timesOf(left, timesOf(bidiagonal(3, b), turned(right))).Data, productOf(left, b, right).Data) {
				different++
			}
		}
	}
	if different < 20 {
		t.Error(different)
	}
}

// byGemm is layer 8's product of matrices with 1 and 0.
func byGemm(t *testing.T, left, right view.View) view.View {
	t.Helper()
	o, e := view.New(left.Rows(), right.Cols())
	if f := kernels.Gemm(1, left, right, 0, o); e != api.OK || f != api.OK {
		t.Fatal(e, f)
	}
	return o
}

// viewed is a view of a matrix that may be.
func viewed(t *testing.T, a api.Matrix) view.View {
	t.Helper()
	v, e := view.Of(a)
	if e != api.OK {
		t.Fatal(e)
	}
	return v
}

// P11.3: it is what layer 8's own product makes of it, also of the greatest size.
func TestProductGreatest(t *testing.T) {
	for _, rows := range []int{1, 100, api.MaxSize} {
		source := sources(20)[0]
		n := api.MaxSize
		left, b, right := anyMatrix(rows, n, source), anyBi(n, source), anyMatrix(n, n, source)
		first := byGemm(t, viewed(t, left), viewed(t, bidiagonal(n, b)))
		product(left, b, right).is(t, "Product", byGemm(t, first, viewed(t, right).T()).Matrix())
	}
}

// Q times the form times P turned is nearly what was reduced.
func TestProductOfReduce(t *testing.T) {
	for _, source := range ordinary(21) {
		eachShape(8, func(m, n int) {
			a := anyMatrix(m, n, source)
			got := reduce(a)
			again := product(q(m, n, got.h...).a, got.b, p(n, got.g...).a)
			again.fails(t, "Product", api.OK)
			for i, x := range again.a.Data {
				if gap := x - a.Data[i]; gap > 1e-12 || gap < -1e-12 {
					t.Fatalf("%x: %g, not %g", a, x, a.Data[i])
				}
			}
		})
	}
}
