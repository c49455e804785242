package reflect_test

import (
	"math"
	"testing"

	"plumbline/api"
)

// wrong are matrices that may not be.
func wrong() []api.Matrix {
	return []api.Matrix{
		matrix(-1, 2), matrix(2, -1), matrix(-1, -1, 1), matrix(-2, -2, 1, 2, 3, 4), matrix(0, -1), matrix(-1, 0),
		matrix(2, 2), matrix(2, 2, 1, 2, 3), matrix(2, 2, 1, 2, 3, 4, 5), matrix(0, 0, 1), matrix(0, 2, 1), matrix(2, 0, 1),
		matrix(513, 1, make([]float64, 513)...), matrix(1, 513, make([]float64, 513)...), matrix(513, 0), matrix(0, 513),
		matrix(512, 512, make([]float64, 512*512-1)...), matrix(1<<32, 1<<32), matrix(math.MaxInt, 0), matrix(math.MinInt, 2),
		matrix(math.MinInt, math.MinInt), matrix(1<<62, 4),
	}
}

// places are such as fit, and such as do not.
func places(n int) []int {
	l := []int{math.MinInt, -513, -1, math.MaxInt, math.MaxInt - 1, 1 << 32}
	for i := range n {
		l = append(l, i)
	}
	return l
}

// P9.2, P0.8: all small shapes, reflections and places: ErrArg ahead of ErrShape.
func TestRefusedPlaces(t *testing.T) {
	for rows := range 4 {
		for cols := range 4 {
			a := matrix(rows, cols, make([]float64, rows*cols)...)
			for n := range 6 {
				h := reflection(2, make([]float64, n)...)
				for _, at := range places(6) {
					for _, from := range places(6) {
						want := func(along, across int) api.Errno {
							switch {
							case n == 0 || at < 0 || from < 0:
								return api.ErrArg
							case at > along || at+n > along || from > across:
								return api.ErrShape
							}
							return api.OK
						}
						left(a, at, from, h).fails(t, "Left", want(rows, cols))
						right(a, at, from, h).fails(t, "Right", want(cols, rows))
					}
				}
			}
		}
	}
}

// P9.2, P0.3, P0.9: matrices that may not be, whatever stands beside them.
func TestRefusedMatrices(t *testing.T) {
	for _, a := range wrong() {
		for n := range 4 {
			h := reflection(2, make([]float64, n)...)
			for _, at := range places(4) {
				for _, from := range places(4) {
					left(a, at, from, h).fails(t, "Left", api.ErrArg)
					right(a, at, from, h).fails(t, "Right", api.ErrArg)
				}
			}
		}
	}
}

// The greatest and the emptiest matrices that may be are taken.
func TestGreatestTaken(t *testing.T) {
	const n = api.MaxSize
	long, one := reflection(0, make([]float64, n)...), reflection(1, 1)
	for _, a := range []api.Matrix{matrix(n, n, make([]float64, n*n)...), matrix(n, 0), matrix(0, n), matrix(n, 1, make([]float64, n)...), matrix(1, n, make([]float64, n)...)} {
		if a.Rows == n {
			left(a, 0, a.Cols, long).is(t, "Left", a)
			left(a, n-1, 0, one).is(t, "Left", a)
			left(a, 1, 0, long).fails(t, "Left", api.ErrShape)
			left(a, n, 0, one).fails(t, "Left", api.ErrShape)
		}
		if a.Cols == n {
			right(a, 0, a.Rows, long).is(t, "Right", a)
			right(a, n-1, 0, one).is(t, "Right", a)
			right(a, 1, 0, long).fails(t, "Right", api.ErrShape)
			right(a, n, 0, one).fails(t, "Right", api.ErrShape)
		}
		left(a, 0, a.Cols+1, one).fails(t, "Left", api.ErrShape)
		right(a, 0, a.Rows+1, one).fails(t, "Right", api.ErrShape)
	}
	left(matrix(1, 1, 1), 0, 0, reflection(1, make([]float64, 600)...)).fails(t, "Left", api.ErrShape)
	right(matrix(1, 1, 1), 0, 0, reflection(0, make([]float64, 600)...)).fails(t, "Right", api.ErrShape)
}

// eachLengths goes over lists of up to k lengths, from 0 to 3.
func eachLengths(k int, do func(l []int)) {
	do(nil)
	if k == 0 {
		return
	}
	for n := range 4 {
		eachLengths(k-1, func(l []int) { do(append([]int{n}, l...)) })
	}
}

func ofLengths(lengths []int) []api.Reflection {
	var l []api.Reflection
	for _, n := range lengths {
		l = append(l, reflection(1, make([]float64, n)...))
	}
	return l
}

// alikeLong tells if they may be handed in together.
func alikeLong(lengths []int) bool {
	for _, n := range lengths {
		if n == 0 || n != lengths[0] {
			return false
		}
	}
	return len(lengths) > 0
}

// P9.3: none, unlike lengths, a length 0.
func TestRefusedFactor(t *testing.T) {
	eachLengths(4, func(lengths []int) {
		want := api.OK
		if !alikeLong(lengths) {
			want = api.ErrArg
		}
		factor(ofLengths(lengths)...).fails(t, "Factor", want)
	})
	factor([]api.Reflection{}...).fails(t, "Factor", api.ErrArg)
	factor(api.Reflection{}).fails(t, "Factor", api.ErrArg)
}

// P9.3, P0.8: all small lists and shapes: ErrArg ahead of ErrShape.
func TestRefusedBlock(t *testing.T) {
	eachLengths(3, func(lengths []int) {
		l, k := ofLengths(lengths), len(lengths)
		for rows := range 4 {
			for across := range 5 {
				for down := range 5 {
					want := api.OK
					switch {
					case !alikeLong(lengths):
						want = api.ErrArg
					case across != k || down != k || rows != lengths[0]:
						want = api.ErrShape
					}
					a, f := matrix(rows, 2, make([]float64, 2*rows)...), matrix(down, across, make([]float64, down*across)...)
					block(a, f, l...).fails(t, "Block", want)
				}
			}
		}
	})
}

// P9.3, P0.3, P0.9: matrices that may not be, in each place, whatever stands in the others.
func TestRefusedBlockMatrices(t *testing.T) {
	good := []api.Matrix{matrix(0, 0), matrix(2, 2, 1, 2, 3, 4), matrix(2, 1, 1, 2), matrix(3, 0)}
	lists := [][]api.Reflection{nil, ofLengths([]int{2}), ofLengths([]int{2, 2}), ofLengths([]int{0, 0}), ofLengths([]int{2, 1})}
	for _, bad := range wrong() {
		for _, l := range lists {
			for _, other := range append(wrong(), good...) {
				block(bad, other, l...).fails(t, "Block", api.ErrArg)
				block(other, bad, l...).fails(t, "Block", api.ErrArg)
			}
		}
	}
}
