package tridiag_test

import (
	"math"
	"slices"
	"testing"

	"plumbline/api"
)

// wild are the sources, and such as also answer what is not finite.
func wild(seed uint64) []func() float64 {
	next := stream(seed)
	e := append(edges(), inf, -inf, nan)
	return append(sources(seed),
		func() float64 { return e[under(next, len(e))] },
		func() float64 { return math.Float64frombits(next() | uint64(under(next, 2))*0x7FF<<52) })
}

// comesTo expects what the chapter's words make of the reflections.
func comesTo(t *testing.T, n int, l []api.Reflection) {
	t.Helper()
	q(n, l...).is(t, "Q", qOf(n, l))
}

// P10.2, P0.5, P0.9: whatever reflections.
func TestQ(t *testing.T) {
	for _, source := range wild(12) {
		for n := 3; n < 8; n++ {
			for range 12 {
				l := anyReflections(n, source)
				comesTo(t, n, l)
				for k := range l {
					l[k].V[0] = 1
				}
				comesTo(t, n, l)
			}
		}
		comesTo(t, 14, anyReflections(14, source))
	}
}

// P10.2: such as Reduce answers.
func TestQOfReduce(t *testing.T) {
	for _, source := range sources(13) {
		for n := range 9 {
			comesTo(t, n, reduce(symmetric(n, source)).l)
			comesTo(t, n, reduce(anySquare(n, source)).l)
		}
	}
}

// P10.2: of none, one, two rows there is nothing to reflect.
func TestQOfFew(t *testing.T) {
	for n := range 3 {
		q(n).is(t, "Q", unit(n))
		q(n, []api.Reflection{}...).is(t, "Q", unit(n))
		for _, l := range [][]api.Reflection{{{}}, {reflection(0, 1)}, {reflection(1, 1, 2)}, {reflection(0, 1), reflection(0, 1)}} {
			q(n, l...).fails(t, "Q", api.ErrArg)
		}
	}
}

// P10.2: such as can be reckoned without rounding.
func TestQByHand(t *testing.T) {
	q(3, reflection(1, 1, 1)).is(t, "Q", matrix(3, 3, 1, 0, 0, 0, 0, -1, 0, -1, 0))
	q(3, reflection(2, 1, 0)).is(t, "Q", matrix(3, 3, 1, 0, 0, 0, -1, 0, 0, 0, 1))
	q(3, reflection(1, 2, 3)).is(t, "Q", matrix(3, 3, 1, 0, 0, 0, -3, -6, 0, -6, -8))
	// The first one is done last: it exchanges the rows 1 and 2 of what the second one made.
	q(4, reflection(1, 1, 1, 0), reflection(1, 1, 1)).is(t, "Q", matrix(4, 4, 1, 0, 0, 0, 0, 0, 0, 1, 0, -1, 0, 0, 0, 0, -1, 0))
	q(3, reflection(nan, 1, 1)).is(t, "Q", matrix(3, 3, 1, 0, 0, 0, nan, nan, 0, nan, nan))
	q(3, reflection(1, inf, 0)).is(t, "Q", matrix(3, 3, 1, 0, 0, 0, -inf, nan, 0, nan, nan))
	// Fused it would be -2^-51 - 2^-104.
	q(3, reflection(1, 1+step, 0)).is(t, "Q", matrix(3, 3, 1, 0, 0, 0, -2*step, 0, 0, 0, 1))
}

// times is a product of matrices of whole numbers.
func times(a, b api.Matrix) api.Matrix {
	c := noughts(a.Rows, b.Cols)
	for i := range a.Rows {
		for k := range b.Cols {
			for j := range a.Cols {
				c.Data[i*b.Cols+k] += entry(a, i, j) * entry(b, j, k)
			}
		}
	}
	return c
}

// whole is the reflection at k of n rows, as a matrix.
func whole(n, k int, h api.Reflection) api.Matrix {
	a := unit(n)
	for i, v := range h.V {
		for j, w := range h.V {
			a.Data[(k+1+i)*n+k+1+j] -= h.Tau * v * w
		}
	}
	return a
}

// P10.2: of whole numbers, which are exact, Q is the product of the reflections, the first one first.
func TestQIsTheProduct(t *testing.T) {
	source := sources(14)[3]
	different := 0
	for i := range 200 {
		n := 3 + i%4
		l := anyReflections(n, source)
		want, other := unit(n), unit(n)
		for k, h := range l {
			want, other = times(want, whole(n, k, h)), times(whole(n, k, h), other)
		}
		got := q(n, l...)
		got.fails(t, "Q", api.OK)
		if !slices.Equal(got.a.Data, want.Data) { // 0 and -0 are equal here
			t.Fatal(l, got, want)
		}
		if !slices.Equal(want.Data, other.Data) {
			different++
		}
	}
	if different < 50 {
		t.Error(different)
	}
}

// P10.2: Tau 0, of either sign, among others, and of all: nothing of such a one is read.
func TestQOfTauZero(t *testing.T) {
	for _, source := range wild(15) {
		for _, zero := range few(0, minus) {
			for which := range 1 << 4 {
				l := anyReflections(6, source)
				for k := range l {
					if which>>k&1 == 1 {
						l[k] = reflection(zero, slices.Repeat(few(nan), 5-k)...)
					}
				}
				comesTo(t, 6, l)
				if which == 15 {
					q(6, l...).is(t, "Q", unit(6))
				}
			}
		}
	}
}

// P10.2: what lies ahead of the row and column k + 1 is I's, whatever the reflections.
func TestQOutside(t *testing.T) {
	for _, tau := range few(nan, inf, 1, -inf) {
		for first := range 4 {
			l := none(6)
			for k := first; k < 4; k++ {
				l[k] = reflection(tau, slices.Repeat(few(nan), 5-k)...)
			}
			got := q(6, l...)
			got.fails(t, "Q", api.OK)
			for i := range 6 {
				for k := range 6 {
					x, inside := entry(got.a, i, k), i > first && k > first
					if inside == (x == x) || !inside && !alike(x, entry(unit(6), i, k)) {
						t.Fatal(first, i, k, x)
					}
				}
			}
		}
	}
}

// P10.2: of the greatest size.
func TestQGreatest(t *testing.T) {
	const n = api.MaxSize
	l := none(n)
	q(n, l...).is(t, "Q", unit(n))
	l[0] = reflection(2, append(few(0), l[0].V[1:]...)...)
	l[0].V[n-2] = 1
	l[n-3] = reflection(1, 1, 1)
	want := unit(n)
	copy(want.Data[(n-2)*n+n-2:], few(0, -1))
	copy(want.Data[(n-1)*n+n-2:], few(1, 0))
	q(n, l...).is(t, "Q", want)
}
