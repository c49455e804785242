package tridiag_test

import (
	"math"
	"slices"
	"testing"

	"plumbline/api"
	"plumbline/reflect"
)

// wrong are matrices that may not be, square and not.
func wrong() []api.Matrix {
	return []api.Matrix{
		matrix(-1, 2), matrix(2, -1), matrix(-1, -1, 1), matrix(-2, -2, 1, 2, 3, 4), matrix(0, -1), matrix(-1, 0),
		matrix(2, 2), matrix(2, 2, 1, 2, 3), matrix(2, 2, 1, 2, 3, 4, 5), matrix(0, 0, 1), matrix(0, 2, 1), matrix(2, 0, 1),
		matrix(2, 3, 1, 2, 3, 4), matrix(3, 2, 1, 2, 3, 4, 5, 6, 7), matrix(1, 4, 1, 2), matrix(3, 3, 1, 2, 3, 4, 5, 6, 7, 8),
		noughts(513, 513), noughts(513, 1), noughts(1, 513), matrix(513, 0), matrix(0, 513), matrix(513, 513),
		matrix(512, 512, make([]float64, 512*512-1)...), matrix(512, 512, make([]float64, 512*512+1)...),
		matrix(1<<32, 1<<32), matrix(math.MaxInt, 0), matrix(0, math.MaxInt), matrix(math.MaxInt, math.MaxInt, 1),
		matrix(math.MinInt, 2), matrix(math.MinInt, math.MinInt), matrix(1<<62, 4), matrix(1<<31, 1<<33),
	}
}

// unfinite are NaNs of some bits, and both infinities.
func unfinite() []float64 {
	return few(nan, inf, -inf, math.Float64frombits(0x7FF0000000000001), math.Float64frombits(0xFFFFFFFFFFFFFFFF))
}

// P10.1, P0.8, P0.9: a matrix that may not be, square or not, with entries that are not finite, or not.
func TestReduceMayNotBe(t *testing.T) {
	for _, a := range wrong() {
		reduce(a).fails(t, api.ErrArg)
		for _, x := range unfinite() {
			b := clone(a)
			for i := range b.Data {
				b.Data[i] = x
			}
			reduce(b).fails(t, api.ErrArg)
		}
	}
}

// P10.1: all small shapes, alone, and with an entry that is not finite, at each place: ErrShape ahead of ErrFinite.
func TestReduceShapes(t *testing.T) {
	for rows := range 6 {
		for cols := range 6 {
			want, other := api.OK, api.ErrFinite
			if rows != cols {
				want, other = api.ErrShape, api.ErrShape
			}
			a := noughts(rows, cols)
			reduce(a).fails(t, want)
			for i := range a.Data {
				for _, x := range unfinite() {
					a.Data[i] = x
					reduce(a).fails(t, other)
				}
				a.Data[i] = most
			}
			reduce(a).fails(t, want)
		}
	}
	for _, a := range []api.Matrix{noughts(512, 511), noughts(511, 512), noughts(512, 0), noughts(0, 512), noughts(512, 1), noughts(1, 512)} {
		reduce(a).fails(t, api.ErrShape)
	}
}

// P10.1: also where it would not be read: above the diagonal.
func TestReduceFinite(t *testing.T) {
	for _, x := range unfinite() {
		a := noughts(512, 512)
		reduce(a).fails(t, api.OK)
		for _, i := range []int{0, 511, 512*511 + 511, 512 * 511, 12345} {
			a.Data[i] = x
			reduce(a).fails(t, api.ErrFinite)
			a.Data[i] = 0
		}
	}
}

// P10.2: sizes that may not be, whatever reflections.
func TestQSizes(t *testing.T) {
	for _, n := range []int{math.MinInt, -1 << 32, -513, -3, -2, -1, 513, 514, 1000, 1 << 32, math.MaxInt} {
		for _, m := range []int{0, 3, 5, 512} {
			q(n, none(m)...).fails(t, "Q", api.ErrArg)
		}
	}
	q(513, none(513)...).fails(t, "Q", api.ErrArg)
	q(-1, reflection(1, 1)).fails(t, "Q", api.ErrArg)
}

// P10.2: too few, too many; none at all; those of another size.
func TestQCounts(t *testing.T) {
	for n := range 9 {
		for m := range 9 {
			want := api.OK
			if max(n, 2) != max(m, 2) {
				want = api.ErrArg
			}
			q(n, none(m)...).fails(t, "Q", want)
		}
		l := none(n)
		q(n, append(l, api.Reflection{})...).fails(t, "Q", api.ErrArg)
		q(n, append(l, reflection(1, 1))...).fails(t, "Q", api.ErrArg)
		q(n, append([]api.Reflection{reflection(0, make([]float64, max(n, 0))...)}, l...)...).fails(t, "Q", api.ErrArg)
		if n > 2 {
			q(n, l[1:]...).fails(t, "Q", api.ErrArg)
			q(n, l[:len(l)-1]...).fails(t, "Q", api.ErrArg)
		}
	}
	q(512, none(511)...).fails(t, "Q", api.ErrArg)
	q(512, none(513)...).fails(t, "Q", api.ErrArg)
}

// P10.2: one that is too short or too long, in each place, whatever its Tau.
func TestQLengths(t *testing.T) {
	for n := 3; n < 9; n++ {
		for k := range n - 2 {
			for _, tau := range few(0, minus, 1, nan) {
				for length := range n + 3 {
					l := none(n)
					l[k] = reflection(tau, make([]float64, length)...)
					want := api.OK
					if length != n-1-k {
						want = api.ErrArg
					}
					q(n, l...).fails(t, "Q", want)
				}
			}
		}
		l := none(n)
		slices.Reverse(l)
		if n > 3 {
			q(n, l...).fails(t, "Q", api.ErrArg)
		}
	}
	for _, k := range []int{0, 1, 255, 509} {
		for _, change := range []int{-1, 1} {
			l := none(512)
			l[k].V = make([]float64, 511-k+change)
			q(512, l...).fails(t, "Q", api.ErrArg)
		}
	}
}

// Reflections of bidiagonal forms, or of one length, do not fit.
func TestQOfOthers(t *testing.T) {
	h, _, _ := reflect.Make(3, 4)
	q(3, h).fails(t, "Q", api.OK)
	q(4, h, h).fails(t, "Q", api.ErrArg)
	q(2, h).fails(t, "Q", api.ErrArg)
	q(5, h, h, h).fails(t, "Q", api.ErrArg)
}
