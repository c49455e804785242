package bidiag_test

import (
	"math"
	"slices"
	"testing"

	"plumbline/api"
)

// reducesAs expects what the chapter's words make of it.
func reducesAs(t *testing.T, a api.Matrix) {
	t.Helper()
	reduce(a).is(t, a, said().reduces(a))
}

// eachShape goes over all that have no more columns than rows, up to so many.
func eachShape(rows int, do func(m, n int)) {
	for m := range rows + 1 {
		for n := range m + 1 {
			do(m, n)
		}
	}
}

// P11.1, P0.5: all small shapes and some greater ones, whatever finite floats.
func TestReduce(t *testing.T) {
	for _, source := range sources(1) {
		eachShape(7, func(m, n int) {
			for range 8 {
				reducesAs(t, anyMatrix(m, n, source))
			}
		})
		reducesAs(t, anyMatrix(15, 15, source))
		reducesAs(t, anyMatrix(16, 12, source))
		reducesAs(t, anyMatrix(40, 3, source))
	}
	reducesAs(t, anyMatrix(33, 31, sources(2)[0]))
}

// P11.1: no columns, and one of one row: what is there is answered, bit by bit, and nothing is reflected.
func TestReduceOfFew(t *testing.T) {
	for _, m := range []int{0, 1, 2, 3, 7, api.MaxSize} {
		for _, data := range [][]float64{nil, {}} {
			a := matrix(m, 0, data...)
			reduce(a).is(t, a, reduced{})
		}
	}
	for _, x := range edges() {
		one := matrix(1, 1, x)
		reduce(one).is(t, one, reduced{b: bi(few(x)), h: none(1, 1)})
		for _, y := range edges() {
			for _, z := range edges() {
				// The first column has 0 below, so that what is above stays as well.
				for _, zero := range few(0, minus) {
					two := matrix(2, 2, x, y, zero, z)
					reduce(two).is(t, two, reduced{b: bi(few(x, z), y), h: none(2, 2)})
				}
			}
		}
	}
}

// P11.1: one, two, three columns, as many rows, and more: so many reflections of columns, one for each, and two fewer of rows.
func TestReduceCounts(t *testing.T) {
	source := sources(3)[0]
	for n := 1; n < 7; n++ {
		for m := n; m < 9; m++ {
			a := anyMatrix(m, n, source)
			got := reduce(a)
			if len(got.b.D) != n || len(got.b.E) != n-1 || len(got.h) != n || len(got.g) != max(n-2, 0) {
				t.Fatal(m, n, got)
			}
			for k, h := range got.h {
				// One entry alone is not reflected.
				if len(h.V) != m-k || (h.Tau == 0) != (m-k == 1) {
					t.Fatal(m, n, k, h)
				}
			}
			for k, g := range got.g {
				if len(g.V) != n-1-k || g.Tau == 0 {
					t.Fatal(m, n, k, g)
				}
			}
			reducesAs(t, a)
		}
	}
}

// P11.1: one, two and three columns of the edges.
func TestReduceOfEdges(t *testing.T) {
	for _, x := range edges() {
		for _, y := range edges() {
			reducesAs(t, matrix(2, 1, x, y))
			reducesAs(t, matrix(3, 1, x, y, -x))
			for _, z := range few(0, 1, -0.1, 0x1p600, 0x1p-600) {
				reducesAs(t, matrix(2, 2, x, z, y, -z))
				reducesAs(t, matrix(3, 2, x, z, y, x, z, y))
				reducesAs(t, matrix(3, 3, z, x, y, 0, y, x, minus, z, z))
				reducesAs(t, matrix(4, 3, x, y, z, z, x, y, y, z, x, x, x, z))
			}
		}
	}
}

// P11.1: such as can be reckoned without rounding.
func TestReduceByHand(t *testing.T) {
	for _, x := range []struct {
		a    api.Matrix
		want reduced
	}{
		{matrix(2, 1, 3, 4), reduced{bi(few(-5)), []api.Reflection{reflection(1.6, 1, 0.5)}, nil, api.OK}},
		{matrix(2, 1, 0, 2), reduced{bi(few(-2)), []api.Reflection{reflection(1, 1, 1)}, nil, api.OK}},
		{matrix(2, 1, minus, 2), reduced{bi(few(2)), []api.Reflection{reflection(1, 1, -1)}, nil, api.OK}},
		{matrix(3, 1, 7, 0, minus), reduced{bi(few(7)), []api.Reflection{reflection(0, 1, 0, 0)}, nil, api.OK}},
		// w is 1.6 (5 + 0.5 10): 16; the column becomes 5 - 16, 10 - 8.
		{matrix(2, 2, 3, 5, 4, 10), reduced{bi(few(-5, 2), -11), []api.Reflection{reflection(1.6, 1, 0.5), reflection(0, 1)}, nil, api.OK}},
		// w is 10; of what is left, 0 and 2, the second reflection is made.
		{matrix(3, 2, 3, 3.75, 4, 5, 0, 2), reduced{bi(few(-5, -2), -6.25),
			[]api.Reflection{reflection(1.6, 1, 0.5, 0), reflection(1, 1, 1)}, nil, api.OK}},
		// The row 0, 2 makes the one that exchanges the columns, and turns their signs, below it.
		{matrix(3, 3, 1, 0, 2, 0, 3, 4, 0, 5, 0), reduced{bi(few(1, -4, -5), -2, -3),
			none(3, 3), []api.Reflection{reflection(1, 1, 1)}, api.OK}},
		// The first column's one exchanges the rows, so that it is -0 less -4 which the row's one is made of.
		{matrix(3, 3, 0, 3, 6, 2, 0, 4, 0, 5, 0), reduced{bi(few(-2, -6, 5), -4, -3),
			append([]api.Reflection{reflection(1, 1, 1, 0)}, none(2, 2)...), []api.Reflection{reflection(1, 1, -1)}, api.OK}},
		// A last row below: the last column's reflection is one, too, of 0 and 3.
		{matrix(4, 3, 1, 2, 0, 0, 3, 4, 0, 0, 0, 0, 0, 4), reduced{bi(few(1, 3, -4), 2, 4),
			append(none(2, 4), reflection(1, 1, 1)), none(1, 2), api.OK}},
	} {
		reduce(x.a).is(t, x.a, x.want)
		reducesAs(t, x.a)
	}
}

// upsideDown answers the matrix with the rows behind the first one the other way round.
func upsideDown(a api.Matrix) api.Matrix {
	b := clone(a)
	for i := 1; i < a.Rows; i++ {
		copy(b.Data[i*a.Cols:], a.Data[(a.Rows-i)*a.Cols:][:a.Cols])
	}
	return b
}

// P11.1, P0.5: each other order, each fused operation, and what else could be taken for the chapter's words, is to be seen in what is tested.
func TestReduceOtherwise(t *testing.T) {
	seen := map[string]int{}
	tell := func(a api.Matrix) {
		right := said().reduces(a)
		reduce(a).is(t, a, right)
		for name, y := range others() {
			if !y.reduces(a).alike(right) {
				seen[name]++
			}
		}
	}
	for _, source := range append(ordinary(4), sources(5)[1]) {
		for range 20 {
			for n := 2; n < 6; n++ {
				tell(anyMatrix(n+n%3, n, source))
				tell(bidiagonal(n+n%3, anyBi(n, source)))
			}
		}
	}
	for name := range others() {
		if seen[name] == 0 {
			t.Error(name)
		}
	}
}

// P11.1: a sum's order is to be seen: another order of the rows answers other floats.
func TestReduceOrder(t *testing.T) {
	different := 0
	source := sources(6)[0]
	for range 20 {
		a := anyMatrix(8, 5, source)
		b := upsideDown(a)
		reducesAs(t, b)
		if !same(reduce(a).b.D, reduce(b).b.D) {
			different++
		}
	}
	if different == 0 {
		t.Error(different)
	}
}

// P11.1: what is bidiagonal as it is, with noughts of either sign beside, stays, bit by bit, and each Tau is 0.
func TestReduceOfBidiagonal(t *testing.T) {
	for _, source := range append(sources(7), func() float64 { return minus }, func() float64 { return 0 }) {
		eachShape(7, func(m, n int) {
			b := anyBi(n, source)
			want := reduced{b: b, h: none(n, m), g: none(max(n-2, 0), n-1)}
			a := bidiagonal(m, b)
			reduce(a).is(t, a, want)
			for i := range a.Data {
				if gap := i%n - i/n; gap < 0 || gap > 1 {
					a.Data[i] = minus
				}
			}
			reduce(a).is(t, a, want) // v is 0 where the entry is -0
			reducesAs(t, a)
		})
	}
}

// turnedBy exchanges two lines, which lie a step apart, and turns their signs.
func turnedBy(l []float64, first, second, along, entries int) {
	for i := range entries {
		x, y := &l[first+i*along], &l[second+i*along]
		*x, *y = -*y, -*x
	}
}

// P11.1: columns, and rows, that are 0 behind their first entry, in the midst of others: Tau is 0 at each place that is wanted, and at no other.
func TestReduceTauZeroAmong(t *testing.T) {
	const m, n = 6, 5
	for wanted := range 1 << (n + n - 2) {
		a := bidiagonal(m, bi(few(1, 2, 3, 4, 5), 3, -2, 4, -1))
		for k := n - 1; k >= 0; k-- {
			// v will be 1, 0, .., 1 or -1, and Tau 1, where it is not wanted to be 0.
			if k < n-2 && wanted>>(n+k)&1 == 0 {
				turnedBy(a.Data, k+1, n-1, n, m)
			}
			if wanted>>k&1 == 0 {
				turnedBy(a.Data, k*n, (m-1)*n, 1, n)
			}
		}
		for _, zero := range few(0, minus) {
			for i, x := range a.Data {
				if x == 0 {
					a.Data[i] = zero
				}
			}
			got := reduce(a)
			for k, h := range got.all() {
				if (h.Tau == 0) != (wanted>>k&1 == 1) {
					t.Fatal(wanted, k, h)
				}
			}
			reducesAs(t, a)
		}
	}
}

// P11.1: -0 among the entries of a matrix that is nearly of them alone.
func TestReduceOfNoughts(t *testing.T) {
	next := stream(8)
	eachShape(6, func(m, n int) {
		for range 20 {
			reducesAs(t, anyMatrix(m, n, func() float64 { return few(0, minus, minus, 1, -1)[min(under(next, 12), 4)] }))
			reducesAs(t, anyMatrix(m, n, func() float64 { return few(0, minus)[under(next, 2)] }))
		}
	})
}

// finite tells if all that is answered is.
func (got reduced) finite() bool {
	for _, l := range got.lists() {
		if slices.ContainsFunc(l, func(x float64) bool { return x-x != 0 }) {
			return false
		}
	}
	return !slices.ContainsFunc(got.all(), func(h api.Reflection) bool { return h.Tau-h.Tau != 0 })
}

// P11.1: squares below the least float, and above the greatest one: what is answered need not be finite, and is no error.
func TestReduceBeyond(t *testing.T) {
	for _, a := range []api.Matrix{
		matrix(2, 1, most, most),                         // beta is an infinity
		matrix(2, 1, 0, least),                           // q is
		matrix(2, 2, 1, most, 1, most),                   // w is
		matrix(3, 3, 1, most, most, 0, 1, 1, 0, 1, 1),    // the row's beta is
		matrix(3, 3, 1, 0, least, 0, 1, 1, 0, 1, 1),      // the row's q is
		matrix(3, 3, 1, 1, 1, 0, most, most, 0, most, 1), // the row's w is
		// Entries from 2^-100 to 2^100, whose reflections' products vanish, so that q is an infinity in the end.
		matrix(4, 4,
			0x1p-50, 0, 0, 0,
			0x1p-100, 0, 0x1p-50, 0,
			0x1p100, 0, 0, 1,
			0x1p-100, 0, 0, 0x1p50),
	} {
		reducesAs(t, a)
		if got := reduce(a); got.e != api.OK || got.finite() {
			t.Fatalf("%x: %x %x %x %v", a, got.b, got.h, got.g, got.e)
		}
	}
	for _, x := range few(0x1p-600, 0x1p-1000, 0x1p600, 0x1p1000) {
		eachShape(6, func(m, n int) {
			source := sources(9)[0]
			reducesAs(t, anyMatrix(m, n, func() float64 { return x * source() }))
			other := false
			reducesAs(t, anyMatrix(m, n, func() float64 {
				if other = !other; other {
					return x * source()
				}
				return source()
			}))
		})
	}
}

// Times a power of two, within the range: the same reflections, and the form times it.
func TestReduceScaled(t *testing.T) {
	source := sources(10)[0]
	eachShape(6, func(m, n int) {
		a := anyMatrix(m, n, source)
		got := reduce(a)
		for _, p := range []int{-400, -99, -1, 1, 60, 400} {
			scaled := func(l []float64) []float64 {
				var other []float64
				for _, x := range l {
					other = append(other, math.Ldexp(x, p))
				}
				return other
			}
			b := matrix(m, n, scaled(a.Data)...)
			reduce(b).is(t, b, reduced{bi(scaled(got.b.D), scaled(got.b.E)...), got.h, got.g, api.OK})
		}
	})
}

// P11.1: of the greatest size, the last lines of which are exchanged.
func TestReduceGreatest(t *testing.T) {
	const n = api.MaxSize
	source := sources(11)[3]
	b := anyBi(n, source)
	b.D[n-3], b.D[n-2], b.D[n-1], b.E[n-3], b.E[n-2] = 7, 5, 3, 4, 1
	a := bidiagonal(n, b)
	turnedBy(a.Data, n-2, n-1, n, n)
	turnedBy(a.Data, (n-2)*n, (n-1)*n, 1, n)
	// Both are exchanged again: first the columns, then the rows, of which the signs are turned once more.
	want := reduced{b: b, h: none(n, n), g: none(n-2, n-1)}
	want.g[n-3] = reflection(1, 1, 1)
	want.h[n-2] = reflection(1, 1, -1)
	b.D[n-2], b.D[n-1], b.E[n-2] = -5, -3, -1
	reduce(a).is(t, a, want)
}

// P11.1: of the greatest length, one column, and two.
func TestReduceLong(t *testing.T) {
	for _, source := range ordinary(12) {
		reducesAs(t, anyMatrix(api.MaxSize, 1, source))
		reducesAs(t, anyMatrix(api.MaxSize, 2, source))
		reducesAs(t, anyMatrix(api.MaxSize, 3, source))
	}
}
