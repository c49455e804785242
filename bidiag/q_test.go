package bidiag_test

import (
	"slices"
	"testing"

	"plumbline/api"
)

// comesTo expects what the chapter's words make of the reflections of m rows and n columns, in Q, and of n columns, in P.
func comesTo(t *testing.T, m, n int, h, g []api.Reflection) {
	t.Helper()
	q(m, n, h...).is(t, "Q", qOf(m, n, h))
	p(n, g...).is(t, "P", pOf(n, g))
}

// of answers reflections such as m rows and n columns have.
func of(m, n int, from func() float64) (h, g []api.Reflection) {
	return anyReflections(n, m, from), anyReflections(max(n-2, 0), n-1, from)
}

// P11.2, P0.5, P0.9: whatever reflections.
func TestQAndP(t *testing.T) {
	for _, source := range wild(13) {
		eachShape(6, func(m, n int) {
			for range 6 {
				h, g := of(m, n, source)
				comesTo(t, m, n, h, g)
				for _, l := range slices.Concat(h, g) {
					l.V[0] = 1
				}
				comesTo(t, m, n, h, g)
			}
		})
		h, g := of(14, 11, source)
		comesTo(t, 14, 11, h, g)
	}
}

// P11.2: such as Reduce answers.
func TestQAndPOfReduce(t *testing.T) {
	for _, source := range sources(14) {
		eachShape(7, func(m, n int) {
			got := reduce(anyMatrix(m, n, source))
			comesTo(t, m, n, got.h, got.g)
		})
	}
}

// P11.2: no columns; one row; of none, one and two columns P has nothing to reflect.
func TestQAndPOfFew(t *testing.T) {
	for _, m := range []int{0, 1, 2, 3, api.MaxSize} {
		q(m, 0).is(t, "Q", matrix(m, 0))
		q(m, 0, []api.Reflection{}...).is(t, "Q", matrix(m, 0))
	}
	q(1, 1, reflection(0, 5)).is(t, "Q", matrix(1, 1, 1))
	q(1, 1, reflection(2, 1)).is(t, "Q", matrix(1, 1, -1))
	for n := range 3 {
		p(n).is(t, "P", unit(n, n))
		p(n, []api.Reflection{}...).is(t, "P", unit(n, n))
		for _, l := range [][]api.Reflection{{{}}, {reflection(0, 1)}, {reflection(1, 1, 2)}, {reflection(0, 1), reflection(0, 1)}} {
			p(n, l...).fails(t, "P", api.ErrArg)
		}
	}
}

// P11.2: such as can be reckoned without rounding.
func TestQByHand(t *testing.T) {
	q(2, 1, reflection(1, 1, 1)).is(t, "Q", matrix(2, 1, 0, -1))
	q(2, 1, reflection(2, 1, 0)).is(t, "Q", matrix(2, 1, -1, 0))
	q(2, 2, reflection(1, 2, 3), reflection(0, 1)).is(t, "Q", matrix(2, 2, -3, -6, -6, -8))
	// The first one is done last: it exchanges the rows 0 and 1 of what the second one made.
	q(3, 2, reflection(1, 1, 1, 0), reflection(1, 1, 1)).is(t, "Q", matrix(3, 2, 0, 0, -1, 0, 0, -1))
	q(3, 2, reflection(nan, 1, 1, 0), reflection(0, 1, 1)).is(t, "Q", matrix(3, 2, nan, nan, nan, nan, nan, nan))
	// Ahead of the row and the column 1 it is as it was.
	q(3, 2, reflection(0, 1, 1, 1), reflection(nan, 1, 1)).is(t, "Q", matrix(3, 2, 1, 0, 0, nan, 0, nan))
	q(2, 1, reflection(1, inf, 0)).is(t, "Q", matrix(2, 1, -inf, nan))
	// Fused it would be -2^-51 - 2^-104.
	q(2, 1, reflection(1, 1+step, 0)).is(t, "Q", matrix(2, 1, -2*step, 0))
	// Tau times the sum, and that times v: v times Tau would be an infinity.
	q(2, 1, reflection(2, 0x1p-1000, 0x1p1023)).is(t, "Q", matrix(2, 1, 1, -0x1p24))
}

// P11.2: P begins a row and a column later.
func TestPByHand(t *testing.T) {
	p(3, reflection(1, 1, 1)).is(t, "P", matrix(3, 3, 1, 0, 0, 0, 0, -1, 0, -1, 0))
	p(3, reflection(2, 1, 0)).is(t, "P", matrix(3, 3, 1, 0, 0, 0, -1, 0, 0, 0, 1))
	p(3, reflection(1, 2, 3)).is(t, "P", matrix(3, 3, 1, 0, 0, 0, -3, -6, 0, -6, -8))
	p(4, reflection(1, 1, 1, 0), reflection(1, 1, 1)).is(t, "P", matrix(4, 4, 1, 0, 0, 0, 0, 0, 0, 1, 0, -1, 0, 0, 0, 0, -1, 0))
	p(3, reflection(nan, 1, 1)).is(t, "P", matrix(3, 3, 1, 0, 0, 0, nan, nan, 0, nan, nan))
	p(3, reflection(1, 1+step, 0)).is(t, "P", matrix(3, 3, 1, 0, 0, 0, -2*step, 0, 0, 0, 1))
}

// times is a product of matrices of whole numbers.
func times(a, b api.Matrix) api.Matrix {
	c := noughts(a.Rows, b.Cols)
	for i := range a.Rows {
		for k := range b.Cols {
			for j := range a.Cols {
				c.Data[i*b.Cols+k] += entry(a, i, j) * entry(b, j, k)
			}
		}
	}
	return c
}

// whole is a reflection from the row at on, as a matrix of m rows.
func whole(m, at int, h api.Reflection) api.Matrix {
	a := unit(m, m)
	for i, v := range h.V {
		for j, w := range h.V {
			a.Data[(at+i)*m+at+j] -= h.Tau * v * w
		}
	}
	return a
}

// P11.2: of whole numbers, which are exact, Q and P are the products of the reflections, the first one first.
func TestQAndPAreProducts(t *testing.T) {
	source := sources(15)[3]
	different := 0
	for i := range 200 {
		n := 2 + i%3
		m := n + i%2
		h, g := of(m, n, source)
		for _, x := range []struct {
			got         asked
			m, n, first int
			l           []api.Reflection
		}{{q(m, n, h...), m, n, 0, h}, {p(n, g...), n, n, 1, g}} {
			want, other := unit(x.m, x.m), unit(x.m, x.m)
			for k, h := range x.l {
				one := whole(x.m, x.first+k, h)
				want, other = times(want, one), times(one, other)
			}
			want, other = times(want, unit(x.m, x.n)), times(other, unit(x.m, x.n))
			x.got.fails(t, "product", api.OK)
			if !slices.Equal(x.got.a.Data, want.Data) { // 0 and -0 are equal here
				t.Fatal(x.l, x.got, want)
			}
			if !slices.Equal(want.Data, other.Data) {
				different++
			}
		}
	}
	if different < 100 {
		t.Error(different)
	}
}

// P11.2: Tau 0, of either sign, among others, and of all: nothing of such a one is read.
func TestOfTauZero(t *testing.T) {
	for _, source := range wild(16) {
		for _, zero := range few(0, minus) {
			for which := range 1 << 5 {
				h, g := of(6, 5, source)
				for k := range h {
					if which>>k&1 == 1 {
						h[k] = reflection(zero, slices.Repeat(few(nan), 6-k)...)
					}
				}
				for k := range g {
					if which>>k&1 == 1 {
						g[k] = reflection(zero, slices.Repeat(few(nan), 4-k)...)
					}
				}
				comesTo(t, 6, 5, h, g)
				if which == 31 {
					q(6, 5, h...).is(t, "Q", unit(6, 5))
					p(5, g...).is(t, "P", unit(5, 5))
				}
			}
		}
	}
}

// outside expects that all from a row and a column on is a NaN, and that all ahead of it is I's.
func outside(t *testing.T, got asked, from int) {
	t.Helper()
	got.fails(t, "outside", api.OK)
	one := unit(got.a.Rows, got.a.Cols)
	for i := range got.a.Rows {
		for k := range got.a.Cols {
			x, inside := entry(got.a, i, k), i >= from && k >= from
			if inside == (x == x) || !inside && !alike(x, entry(one, i, k)) {
				t.Fatal(from, i, k, x)
			}
		}
	}
}

// P11.2: what lies ahead of the first reflection's row and column is I's, whatever the reflections.
func TestQAndPOutside(t *testing.T) {
	const m, n = 7, 5
	for _, tau := range few(nan, inf, 1, -inf) {
		for first := range n {
			h, g := none(n, m), none(n-2, n-1)
			for k := first; k < n; k++ {
				h[k] = reflection(tau, slices.Repeat(few(nan), m-k)...)
			}
			outside(t, q(m, n, h...), first)
			for k := first; k < n-2; k++ {
				g[k] = reflection(tau, slices.Repeat(few(nan), n-1-k)...)
			}
			if first < n-2 {
				outside(t, p(n, g...), first+1)
			}
		}
	}
}

// P11.2: of the greatest size.
func TestQAndPGreatest(t *testing.T) {
	const n = api.MaxSize
	l := none(n, n)
	q(n, n, l...).is(t, "Q", unit(n, n))
	// The second one from the end exchanges the last rows, and turns their signs; the first one turns the last one's sign.
	l[0].V[0], l[0].V[n-1], l[0].Tau = 0, 1, 2
	l[n-2] = reflection(1, 1, 1)
	want := unit(n, n)
	copy(want.Data[(n-2)*n+n-2:], few(0, -1))
	copy(want.Data[(n-1)*n+n-2:], few(1, 0))
	q(n, n, l...).is(t, "Q", want)
	p(n, none(n-2, n-1)...).is(t, "P", unit(n, n))
	p(n, l[1:n-1]...).is(t, "P", func() api.Matrix {
		want := unit(n, n)
		copy(want.Data[(n-2)*n+n-2:], few(0, -1))
		copy(want.Data[(n-1)*n+n-2:], few(-1, 0))
		return want
	}())
	for _, cols := range []int{1, 2, n - 1} {
		q(n, cols, none(cols, n)...).is(t, "Q", unit(n, cols))
	}
}
