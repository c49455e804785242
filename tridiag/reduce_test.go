package tridiag_test

import (
	"math"
	"slices"
	"testing"

	"plumbline/api"
)

// reducesAs expects what the chapter's words make of it.
func reducesAs(t *testing.T, a api.Matrix) {
	t.Helper()
	reduce(a).is(t, a, said().reduces(a))
}

// P10.1, P0.5: symmetric or not, all small sizes and some greater ones, whatever finite floats.
func TestReduce(t *testing.T) {
	for _, source := range sources(1) {
		for n := range 8 {
			for range 12 {
				reducesAs(t, symmetric(n, source))
				reducesAs(t, anySquare(n, source))
			}
		}
		reducesAs(t, symmetric(15, source))
		reducesAs(t, anySquare(16, source))
	}
	reducesAs(t, symmetric(32, sources(2)[0]))
}

// P10.1: none, one, two rows: what is there is answered, bit by bit, and no reflection; of two the entry below counts.
func TestReduceOfFew(t *testing.T) {
	none := noughts(0, 0)
	reduce(none).is(t, none, reduced{})
	none.Data = few()
	reduce(none).is(t, none, reduced{})
	for _, x := range edges() {
		one := matrix(1, 1, x)
		reduce(one).is(t, one, reduced{t: tri(few(x))})
		for _, y := range edges() {
			two := matrix(2, 2, x, 7, y, -x)
			reduce(two).is(t, two, reduced{t: tri(few(x, -x), y)})
		}
	}
}

// P10.1: three rows, of which only the lower entries count for the reflection.
func TestReduceOfThree(t *testing.T) {
	for _, x := range edges() {
		for _, y := range edges() {
			for _, z := range few(0, 1, -0.1, 0x1p600, 0x1p-600) {
				reducesAs(t, matrix(3, 3, 5, x, y, x, z, y, y, y, x))
				reducesAs(t, matrix(3, 3, 5, 6, 7, x, z, y, y, 8, x))
			}
		}
	}
}

// P10.1: such as can be reckoned without rounding.
func TestReduceByHand(t *testing.T) {
	for _, x := range []struct {
		a    api.Matrix
		want reduced
	}{
		{matrix(3, 3, 1, 3, 4, 3, 0, 0, 4, 0, 0), reduced{tri(few(1, 0, 0), -5, 0), []api.Reflection{reflection(1.6, 1, 0.5)}, api.OK}},
		// p is 2, 3; c is -2.5; w is -0.5, 0.5.
		{matrix(3, 3, 5, 0, 1, 0, 2, 0, 1, 0, 3), reduced{tri(few(5, 3, 2), -1, 0), []api.Reflection{reflection(1, 1, 1)}, api.OK}},
		{matrix(3, 3, 5, minus, 1, minus, 2, 0, 1, 0, 3), reduced{tri(few(5, 3, 2), 1, 0), []api.Reflection{reflection(1, 1, -1)}, api.OK}},
		// Not symmetric: p is 9, 7; c is -8; w is 1, -1; the upper entries of the first row are not read.
		{matrix(3, 3, 5, 8, 6, 0, 2, 7, 1, 4, 3), reduced{tri(few(5, 0, 5), -1, 4), []api.Reflection{reflection(1, 1, 1)}, api.OK}},
		// Tau 0 first, then not: the second row and column stay but for the reflected ones.
		{matrix(4, 4, 1, 2, 0, 0, 2, 5, 0, 1, 0, 0, 2, 0, 0, 1, 0, 3),
			reduced{tri(few(1, 5, 3, 2), 2, -1, 0), []api.Reflection{reflection(0, 1, 0, 0), reflection(1, 1, 1)}, api.OK}},
		// 0.5 Tau first: 0.5 of Tau times the sum would be an infinity.
		{matrix(3, 3, 0, 1, 0x1p-60, 1, 0x1.8p1022, 0, 0x1p-60, 0, 0),
			reduced{tri(few(0, 0x1.8p1022, 0x1.8p902), -1, 0x1.8p962), []api.Reflection{reflection(2, 1, 0x1p-61)}, api.OK}},
	} {
		reduce(x.a).is(t, x.a, x.want)
		reducesAs(t, x.a)
	}
}

// reversed answers the matrix with rows and columns behind the first ones the other way round.
func reversed(a api.Matrix, first int) api.Matrix {
	b := clone(a)
	place := func(i int) int {
		if i < first {
			return i
		}
		return a.Rows - 1 - (i - first)
	}
	for i := range a.Rows {
		for k := range a.Cols {
			b.Data[place(i)*a.Cols+place(k)] = entry(a, i, k)
		}
	}
	return b
}

// P10.1, P0.5: each other order, each fused operation, and what else could be taken for the chapter's words, is to be seen in what is tested.
func TestReduceOtherwise(t *testing.T) {
	seen := map[string]int{}
	for i, source := range append(ordinary(3), sources(4)[1]) {
		for n := 3; n < 7; n++ {
			for range 20 {
				a := anySquare(n, source)
				if i%2 == 0 {
					a = symmetric(n, source)
				}
				right := said().reduces(a)
				reduce(a).is(t, a, right)
				for name, y := range others() {
					if !y.reduces(a).alike(right) {
						seen[name]++
					}
				}
			}
		}
	}
	for name := range others() {
		if seen[name] == 0 {
			t.Error(name)
		}
	}
}

// P10.1: a sum's order is to be seen: another order of the rows answers other floats.
func TestReduceOrder(t *testing.T) {
	different := 0
	source := sources(5)[0]
	for range 20 {
		a := symmetric(7, source)
		b := reversed(a, 2)
		reducesAs(t, b)
		if !same(reduce(a).t.D, reduce(b).t.D) {
			different++
		}
	}
	if different == 0 {
		t.Error(different)
	}
}

// tridiagonal answers the matrix with D on the diagonal, E beside it.
func tridiagonal(r api.Tri) api.Matrix {
	n := len(r.D)
	a := noughts(n, n)
	for i, x := range r.D {
		a.Data[i*n+i] = x
	}
	for i, x := range r.E {
		a.Data[i*n+i+1], a.Data[(i+1)*n+i] = x, x
	}
	return a
}

// none are n - 2 reflections of which each leaves all as it is.
func none(n int) []api.Reflection {
	var l []api.Reflection
	for k := range n - 2 {
		l = append(l, reflection(0, append(few(1), make([]float64, n-2-k)...)...))
	}
	return l
}

// P10.1: what is tridiagonal as it is, with noughts of either sign beside, stays, bit by bit, and each Tau is 0.
func TestReduceOfTridiagonal(t *testing.T) {
	for _, source := range append(sources(6), func() float64 { return minus }, func() float64 { return 0 }) {
		for n := range 10 {
			r := anyTri(n, source)
			want := reduced{t: r, l: none(n)}
			a := tridiagonal(r)
			reduce(a).is(t, a, want)
			for i := range a.Data {
				if gap := i/n - i%n; gap < -1 || gap > 1 {
					a.Data[i] = minus
				}
			}
			reduce(a).is(t, a, want) // v is 0 where the entry is -0
			reducesAs(t, a)
		}
	}
}

// P10.1: above the diagonal stands what is never taken for the form where each Tau is 0.
func TestReduceOfLower(t *testing.T) {
	for _, source := range sources(7) {
		r := anyTri(6, source)
		a := tridiagonal(r)
		for i := range 6 {
			for k := i + 1; k < 6; k++ {
				a.Data[i*6+k] = source()
			}
		}
		reduce(a).is(t, a, reduced{t: r, l: none(6)})
	}
}

// exchanged exchanges the rows i and k, and the columns, and turns the signs of both.
func exchanged(a api.Matrix, i, k int) api.Matrix {
	b := clone(a)
	n := a.Cols
	for j := range n {
		b.Data[i*n+j], b.Data[k*n+j] = -b.Data[k*n+j], -b.Data[i*n+j]
	}
	for j := range n {
		b.Data[j*n+i], b.Data[j*n+k] = -b.Data[j*n+k], -b.Data[j*n+i]
	}
	return b
}

// P10.1: a column that is 0 from the row k + 2 on, in the midst of others: Tau is 0 at each place that is wanted, and at no other.
func TestReduceTauZeroAmong(t *testing.T) {
	const n = 6
	for wanted := range 1 << (n - 2) {
		d := few(1, 2, 3, 4, 5, 6)
		a := tridiagonal(tri(d, 3, -2, 4, -1, 2))
		for k := n - 3; k >= 0; k-- {
			if wanted>>k&1 == 0 { // v will be 1, 0, .., 1 or -1, and Tau 1
				a = exchanged(a, k+1, n-1)
			}
		}
		for _, zero := range few(0, minus) {
			for i, x := range a.Data {
				if x == 0 {
					a.Data[i] = zero
				}
			}
			got := reduce(a)
			for k, h := range got.l {
				if (h.Tau == 0) != (wanted>>k&1 == 1) {
					t.Fatal(wanted, k, h)
				}
			}
			reducesAs(t, a)
		}
	}
}

// P10.1: -0 among the entries of a matrix that is nearly of them alone.
func TestReduceOfNoughts(t *testing.T) {
	next := stream(8)
	for n := range 7 {
		for range 30 {
			a := anySquare(n, func() float64 { return few(0, minus, minus, 1, -1)[min(under(next, 12), 4)] })
			reducesAs(t, a)
			reducesAs(t, anySquare(n, func() float64 { return few(0, minus)[under(next, 2)] }))
		}
	}
}

// finite tells if all that is answered is.
func (got reduced) finite() bool {
	all := slices.Concat(got.t.D, got.t.E)
	for _, h := range got.l {
		all = append(append(all, h.Tau), h.V...)
	}
	return !slices.ContainsFunc(all, func(x float64) bool { return math.IsNaN(x) || math.IsInf(x, 0) })
}

// P10.1: squares below the least float, and above the greatest one: what is answered need not be finite, and is no error.
func TestReduceBeyond(t *testing.T) {
	for _, a := range []api.Matrix{
		matrix(3, 3, 0, most, most, most, 0, 0, most, 0, 0), // beta is an infinity
		matrix(3, 3, 0, 0, least, 0, 1, 1, least, 1, 1),     // q is
		matrix(3, 3, 0, 1, 1, 1, most, most, 1, most, most), // p is
		matrix(4, 4, 0, 0, least, 0, 0, 1, 1, 1, least, 1, 1, 1, 0, 1, 1, 1),
		// Entries from 2^-100 to 2^100, whose reflections' products vanish, so that q is an infinity in the end.
		matrix(6, 6,
			0, 0x1p100, 0, 0, 0x1p-100, 0,
			0x1p100, 0x1p-100, 0x1p100, 0, 0, 0x1p-50,
			0, 0x1p100, 0, 0, 0, 0,
			0, 0, 0, 0, 0, 0,
			0x1p-100, 0, 0, 0, 0, 0,
			0, 0x1p-50, 0, 0, 0, 0),
	} {
		reducesAs(t, a)
		if got := reduce(a); got.e != api.OK || got.finite() {
			t.Fatalf("%x: %x %x %v", a, got.t, got.l, got.e)
		}
	}
	// By infinities that a row has, whatever a later Tau is: NaNs spread.
	a := matrix(4, 4, 0, 0, most, most, 0, 1, 2, 3, most, 2, 4, 5, most, 3, 5, 6)
	reducesAs(t, a)
	for _, x := range few(0x1p-600, 0x1p-1000, 0x1p600, 0x1p1000) {
		for n := 3; n < 7; n++ {
			source := sources(9)[0]
			reducesAs(t, symmetric(n, func() float64 { return x * source() }))
			other := false
			reducesAs(t, symmetric(n, func() float64 {
				if other = !other; other {
					return x * source()
				}
				return source()
			}))
		}
	}
}

// Times a power of two, within the range: the same reflections, and the form times it.
func TestReduceScaled(t *testing.T) {
	source := sources(10)[0]
	for n := range 7 {
		a := symmetric(n, source)
		got := reduce(a)
		for _, p := range []int{-400, -99, -1, 1, 60, 400} {
			scaled := func(l []float64) []float64 {
				var other []float64
				for _, x := range l {
					other = append(other, math.Ldexp(x, p))
				}
				return other
			}
			b := matrix(n, n, scaled(a.Data)...)
			reduce(b).is(t, b, reduced{tri(scaled(got.t.D), scaled(got.t.E)...), got.l, api.OK})
		}
	}
}

// P10.1: of the greatest size.
func TestReduceGreatest(t *testing.T) {
	const n = api.MaxSize
	source := sources(11)[3]
	r := anyTri(n, source)
	r.D[n-2], r.D[n-1], r.E[n-2] = 5, 3, 1
	a := tridiagonal(r)
	reduce(a).is(t, a, reduced{t: r, l: none(n)})
	// The last two are exchanged, and the last reflection exchanges them again.
	b := exchanged(a, n-2, n-1)
	b.Data[(n-1)*n+n-3], b.Data[(n-3)*n+n-1] = 2, 2
	b.Data[(n-2)*n+n-3], b.Data[(n-3)*n+n-2] = 0, 0
	want := reduced{t: r, l: none(n)}
	want.t.E[n-3] = -2
	want.l[n-3] = reflection(1, 1, 1)
	reduce(b).is(t, b, want)
}
