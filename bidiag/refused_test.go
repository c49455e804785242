package bidiag_test

import (
	"math"
	"slices"
	"testing"

	"plumbline/api"
	"plumbline/reflect"
)

// wrong are matrices that may not be: of more rows than columns, of as many, and of fewer.
func wrong() []api.Matrix {
	return []api.Matrix{
		matrix(-1, 2), matrix(2, -1), matrix(-1, -1, 1), matrix(-2, -2, 1, 2, 3, 4), matrix(0, -1), matrix(-1, 0),
		matrix(2, 2), matrix(2, 2, 1, 2, 3), matrix(2, 2, 1, 2, 3, 4, 5), matrix(0, 0, 1), matrix(0, 2, 1), matrix(2, 0, 1),
		matrix(2, 3, 1, 2, 3, 4), matrix(3, 2, 1, 2, 3, 4, 5, 6, 7), matrix(1, 4, 1, 2), matrix(3, 3, 1, 2, 3, 4, 5, 6, 7, 8),
		noughts(513, 513), noughts(513, 1), noughts(1, 513), matrix(513, 0), matrix(0, 513), matrix(513, 513),
		matrix(512, 512, make([]float64, 512*512-1)...), matrix(512, 512, make([]float64, 512*512+1)...),
		matrix(1<<32, 1<<32), matrix(math.MaxInt, 0), matrix(0, math.MaxInt), matrix(math.MaxInt, math.MaxInt, 1),
		matrix(math.MinInt, 2), matrix(math.MinInt, math.MinInt), matrix(1<<62, 4), matrix(1<<31, 1<<33),
	}
}

// P11.1, P0.8, P0.9: a matrix that may not be, of any shape, with entries that are not finite, or not.
func TestReduceMayNotBe(t *testing.T) {
	for _, a := range wrong() {
		reduce(a).fails(t, api.ErrArg)
		for _, x := range unfinite() {
			b := clone(a)
			for i := range b.Data {
				b.Data[i] = x
			}
			reduce(b).fails(t, api.ErrArg)
		}
	}
}

// P11.1: all small shapes, alone, and with an entry that is not finite, at each place: ErrShape ahead of ErrFinite.
func TestReduceShapes(t *testing.T) {
	for rows := range 6 {
		for cols := range 6 {
			want, other := api.OK, api.ErrFinite
			if rows < cols {
				want, other = api.ErrShape, api.ErrShape
			}
			a := noughts(rows, cols)
			reduce(a).fails(t, want)
			for i := range a.Data {
				for _, x := range unfinite() {
					a.Data[i] = x
					reduce(a).fails(t, other)
				}
				a.Data[i] = most
			}
			reduce(a).fails(t, want)
		}
	}
	for _, a := range []api.Matrix{noughts(511, 512), noughts(0, 512), noughts(0, 1), noughts(1, 512)} {
		reduce(a).fails(t, api.ErrShape)
	}
	for _, a := range []api.Matrix{noughts(512, 0), noughts(512, 1), noughts(512, 9)} {
		reduce(a).fails(t, api.OK)
	}
}

// P11.1: at any place, also where none but the last reflection would read it.
func TestReduceFinite(t *testing.T) {
	for _, x := range unfinite() {
		a := noughts(512, 5)
		for _, i := range []int{0, 4, 511*5 + 4, 511 * 5, 1234} {
			a.Data[i] = x
			reduce(a).fails(t, api.ErrFinite)
			a.Data[i] = 0
		}
		one := matrix(1, 1, x)
		reduce(one).fails(t, api.ErrFinite)
		greatest := noughts(512, 512)
		greatest.Data[512*512-1] = x
		reduce(greatest).fails(t, api.ErrFinite)
	}
}

// beyond are sizes that may not be.
func beyond() []int {
	return []int{math.MinInt, -1 << 32, -513, -3, -2, -1, 513, 514, 1000, 1 << 32, math.MaxInt}
}

// P11.2: sizes that may not be, each alone and both, whatever reflections.
func TestSizes(t *testing.T) {
	for _, size := range beyond() {
		for _, other := range append(beyond(), 0, 1, 5, 512) {
			for _, l := range [][]api.Reflection{nil, none(1, 1), none(3, 5), none(5, 5)} {
				q(size, other, l...).fails(t, "Q", api.ErrArg)
				q(other, size, l...).fails(t, "Q", api.ErrArg)
				p(size, l...).fails(t, "P", api.ErrArg)
			}
		}
	}
	q(513, 513, none(513, 513)...).fails(t, "Q", api.ErrArg)
	q(513, 512, none(512, 513)...).fails(t, "Q", api.ErrArg)
	q(513, 0).fails(t, "Q", api.ErrArg)
	q(513, 1, none(1, 513)...).fails(t, "Q", api.ErrArg)
	p(513, none(511, 512)...).fails(t, "P", api.ErrArg)
	p(-1, reflection(1, 1)).fails(t, "P", api.ErrArg)
}

// P11.2: fewer rows than columns, as many, and more: with as many reflections as there should be, and others.
func TestCounts(t *testing.T) {
	for m := range 8 {
		for n := range 8 {
			for count := range 9 {
				want := api.OK
				if m < n || count != n {
					want = api.ErrArg
				}
				q(m, n, anyReflections(count, max(m, count), func() float64 { return 0 })...).fails(t, "Q", want)
			}
		}
	}
	for n := range 9 {
		for count := range 9 {
			want := api.OK
			if count != max(n-2, 0) {
				want = api.ErrArg
			}
			p(n, anyReflections(count, max(n-1, count), func() float64 { return 0 })...).fails(t, "P", want)
		}
	}
	// Fewer rows than columns, and reflections for each of both.
	q(2, 3, none(2, 2)...).fails(t, "Q", api.ErrArg)
	q(2, 3, none(3, 3)...).fails(t, "Q", api.ErrArg)
	q(2, 3, reflection(0, 1, 0), reflection(0, 1), reflection(0)).fails(t, "Q", api.ErrArg)
	q(511, 512, none(511, 511)...).fails(t, "Q", api.ErrArg)
	q(511, 512, none(512, 512)...).fails(t, "Q", api.ErrArg)
}

// otherLists goes over such as have one too few, or one too many.
func otherLists(l []api.Reflection, do func(l []api.Reflection)) {
	for _, h := range []api.Reflection{{}, reflection(1, 1), reflection(0, 1, 2, 3)} {
		for k := range len(l) + 1 {
			do(slices.Insert(slices.Clone(l), k, h))
		}
	}
	for k := range l {
		do(slices.Delete(slices.Clone(l), k, k+1))
	}
}

// P11.2: too few, too many, at each place.
func TestTooManyAndFew(t *testing.T) {
	eachShape(7, func(m, n int) {
		otherLists(none(n, m), func(l []api.Reflection) { q(m, n, l...).fails(t, "Q", api.ErrArg) })
		otherLists(none(max(n-2, 0), n-1), func(l []api.Reflection) { p(n, l...).fails(t, "P", api.ErrArg) })
	})
	otherLists(none(2, 512), func(l []api.Reflection) { q(512, 2, l...).fails(t, "Q", api.ErrArg) })
	p(512, none(509, 511)...).fails(t, "P", api.ErrArg)
	p(512, none(511, 511)...).fails(t, "P", api.ErrArg)
	p(512, none(512, 512)...).fails(t, "P", api.ErrArg)
	q(512, 512, none(511, 512)...).fails(t, "Q", api.ErrArg)
	q(512, 511, none(512, 512)...).fails(t, "Q", api.ErrArg)
}

// eachLength goes over the lists of which one has another length, whatever its Tau, and tells if it is that one's own.
func eachLength(l []api.Reflection, do func(own bool, l []api.Reflection)) {
	for k, h := range l {
		for _, tau := range few(0, minus, 1, nan) {
			for length := range len(h.V) + 3 {
				other := slices.Clone(l)
				other[k] = reflection(tau, make([]float64, length)...)
				do(length == len(h.V), other)
			}
		}
	}
}

// P11.2: one that is too short or too long, in each place.
func TestLengths(t *testing.T) {
	wanted := func(own bool) api.Errno {
		if own {
			return api.OK
		}
		return api.ErrArg
	}
	eachShape(7, func(m, n int) {
		eachLength(none(n, m), func(own bool, l []api.Reflection) { q(m, n, l...).fails(t, "Q", wanted(own)) })
		eachLength(none(max(n-2, 0), n-1), func(own bool, l []api.Reflection) { p(n, l...).fails(t, "P", wanted(own)) })
	})
	for _, k := range []int{0, 1, 255, 509} {
		for _, change := range []int{-1, 1} {
			h, g := none(512, 512), none(510, 511)
			h[k].V = make([]float64, 512-k+change)
			g[k].V = make([]float64, 511-k+change)
			q(512, 512, h...).fails(t, "Q", api.ErrArg)
			p(512, g...).fails(t, "P", api.ErrArg)
		}
	}
}

// P11.2: the one's reflections are not the other's; nor do they fit the other way round, or with one length.
func TestOfOthers(t *testing.T) {
	for n := 3; n < 7; n++ {
		got := reduce(anyMatrix(n+1, n, sources(27)[0]))
		q(n+1, n, got.h...).fails(t, "Q", api.OK)
		p(n, got.g...).fails(t, "P", api.OK)
		q(n+1, n, got.g...).fails(t, "Q", api.ErrArg)
		p(n, got.h...).fails(t, "P", api.ErrArg)
		q(n, n, got.h...).fails(t, "Q", api.ErrArg)
		q(n+2, n, got.h...).fails(t, "Q", api.ErrArg)
		p(n+1, got.g...).fails(t, "P", api.ErrArg)
		slices.Reverse(got.h)
		q(n+1, n, got.h...).fails(t, "Q", api.ErrArg)
	}
	h, _, _ := reflect.Make(3, 4)
	q(2, 1, h).fails(t, "Q", api.OK)
	p(3, h).fails(t, "P", api.OK)
	q(2, 2, h, h).fails(t, "Q", api.ErrArg)
	p(4, h, h).fails(t, "P", api.ErrArg)
}

// eachLengths goes over lengths of D and E, few and many.
func eachLengths(do func(d, e int)) {
	l := []int{0, 1, 2, 3, 4, 5, api.MaxSize - 2, api.MaxSize - 1, api.MaxSize, api.MaxSize + 1, 1000, 1 << 17}
	for _, d := range l {
		for _, e := range l {
			do(d, e)
		}
	}
}

// P11.3: all lengths: E as long as D, one shorter, two shorter, longer, without D; more of them than may be.
func TestFullLengths(t *testing.T) {
	taken := 0
	eachLengths(func(d, e int) {
		want := d == 0 && e == 0 || d >= 1 && d <= 512 && e == d-1
		for _, x := range few(0, nan) {
			b := bi(make([]float64, d), make([]float64, e)...)
			if d > 0 {
				b.D[d-1] = x
			}
			if e > 0 {
				b.E[0] = x
			}
			if want {
				taken++
				full(b).is(t, "Full", bidiagonal(d, b))
			} else {
				full(b).fails(t, "Full", api.ErrArg)
			}
		}
	})
	if taken != 2*8 {
		t.Error(taken)
	}
	full(api.Bi{E: few(1)}).fails(t, "Full", api.ErrArg)
	full(bi(few(1), 2)).fails(t, "Full", api.ErrArg)
	full(bi(few(1, 2, 3), 4)).fails(t, "Full", api.ErrArg)
}

// wrongBis may not be.
func wrongBis() []api.Bi {
	return []api.Bi{
		{E: few(1)}, {D: few(1), E: few(1)}, {D: few(1, 2)}, {D: few(1, 2), E: few(1, 2)}, {D: few(nan, 2, 3), E: few(1)},
		{D: make([]float64, 513), E: make([]float64, 512)}, {D: make([]float64, 513)}, {E: make([]float64, 511)},
	}
}

// P11.3: each of three wrong, alone, and beside others that are wrong, or do not fit.
func TestProductMayNotBe(t *testing.T) {
	matrices := append(wrong(), unit(2, 2), unit(3, 3), matrix(0, 0), noughts(512, 2))
	bis := append(wrongBis(), bi(few(1, 2), 3), bi(few(1, 2, 3), 4, 5), api.Bi{})
	good, other := len(wrong()), len(wrongBis())
	for i, left := range matrices {
		for j, b := range bis {
			for k, right := range matrices {
				if i < good || j < other || k < good {
					product(left, b, right).fails(t, "Product", api.ErrArg)
				}
			}
		}
	}
	for _, left := range matrices[:good] {
		product(left, bi(few(1, 2), 3), unit(2, 2)).fails(t, "Product", api.ErrArg)
		product(unit(2, 2), bi(few(1, 2), 3), left).fails(t, "Product", api.ErrArg)
	}
	for _, b := range bis[:other] {
		product(unit(2, 2), b, unit(2, 2)).fails(t, "Product", api.ErrArg)
	}
}

// P11.3: all small shapes, such as fit and such as do not, with floats of any kind.
func TestProductShapes(t *testing.T) {
	for _, x := range few(1, nan) {
		for n := range 4 {
			b := anyBi(n, func() float64 { return x })
			for which := range 4 * 4 * 4 * 4 {
				left, right := noughts(which&3, which>>2&3), noughts(which>>4&3, which>>6&3)
				want := api.OK
				if left.Cols != n || right.Rows != n || right.Cols != n {
					want = api.ErrShape
				}
				product(left, b, right).fails(t, "Product", want)
			}
		}
	}
	b := anyBi(512, func() float64 { return 1 })
	product(noughts(3, 511), b, noughts(512, 512)).fails(t, "Product", api.ErrShape)
	product(noughts(3, 512), b, noughts(512, 511)).fails(t, "Product", api.ErrShape)
	product(noughts(3, 512), b, noughts(511, 512)).fails(t, "Product", api.ErrShape)
	product(noughts(512, 3), b, noughts(512, 512)).fails(t, "Product", api.ErrShape)
	product(noughts(0, 512), b, noughts(512, 512)).is(t, "Product", matrix(0, 512))
}
