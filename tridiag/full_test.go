package tridiag_test

import (
	"testing"

	"plumbline/api"
	"plumbline/tridiag"
)

// P10.3, P0.9: whatever floats, also such as are not finite; -0 stays.
func TestFull(t *testing.T) {
	for _, source := range append(wild(16), func() float64 { return minus }, func() float64 { return nan }) {
		for n := range 9 {
			r := anyTri(n, source)
			full(r).is(t, "Full", tridiagonal(r))
		}
		r := anyTri(api.MaxSize, source)
		full(r).is(t, "Full", tridiagonal(r))
	}
}

// P10.3
func TestFullByHand(t *testing.T) {
	full(api.Tri{}).is(t, "Full", noughts(0, 0))
	full(tri(few())).is(t, "Full", noughts(0, 0))
	full(tri(few(7))).is(t, "Full", matrix(1, 1, 7))
	full(tri(few(7), few()...)).is(t, "Full", matrix(1, 1, 7))
	full(tri(few(nan))).is(t, "Full", matrix(1, 1, nan))
	full(tri(few(1, 2), 3)).is(t, "Full", matrix(2, 2, 1, 3, 3, 2))
	full(tri(few(1, minus), inf)).is(t, "Full", matrix(2, 2, 1, inf, inf, minus))
	full(tri(few(1, 2, 3), 4, 5)).is(t, "Full", matrix(3, 3, 1, 4, 0, 4, 2, 5, 0, 5, 3))
	full(tri(few(minus, nan, -inf, 9), minus, inf, nan)).is(t, "Full", matrix(4, 4,
		minus, minus, 0, 0, minus, nan, inf, 0, 0, inf, -inf, nan, 0, 0, nan, 9))
}

// eachLengths goes over lengths of D and E, few and many.
func eachLengths(do func(d, e int)) {
	l := []int{0, 1, 2, 3, 4, 5, api.MaxSize - 2, api.MaxSize - 1, api.MaxSize, api.MaxSize + 1, 1000, 1 << 17}
	for _, d := range l {
		for _, e := range l {
			do(d, e)
		}
	}
}

// P10.3: all lengths: E as long as D, one shorter, two shorter, longer, without D; more of them than may be.
func TestMay(t *testing.T) {
	taken := 0
	eachLengths(func(d, e int) {
		want := d == 0 && e == 0 || d >= 1 && d <= 512 && e == d-1
		for _, x := range few(0, nan) {
			r := tri(make([]float64, d), make([]float64, e)...)
			if d > 0 {
				r.D[d-1] = x
			}
			if e > 0 {
				r.E[0] = x
			}
			if tridiag.May(r) != want {
				t.Errorf("%d, %d: %v", d, e, !want)
			}
			if want {
				taken++
				full(r).is(t, "Full", tridiagonal(r))
			} else {
				full(r).fails(t, "Full", api.ErrArg)
			}
		}
	})
	if taken != 2*8 {
		t.Error(taken)
	}
	if !tridiag.May(api.Tri{}) || !tridiag.May(tri(few(), few()...)) || tridiag.May(api.Tri{E: few(1)}) {
		t.Error("none")
	}
}
