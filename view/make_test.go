package view_test

import (
	"fmt"
	"math"
	"testing"

	"plumbline/api"
	"plumbline/view"
)

// P7.1: of any floats, in all small sizes, and the greatest ones.
func TestOf(t *testing.T) {
	for _, s := range append(someSizes(), [2]int{api.MaxSize, api.MaxSize}) {
		for _, l := range [][]float64{counted(s[0] * s[1]), anyFloats(s[0]*s[1], 1)} {
			v, e := view.Of(matrix(s[0], s[1], l...))
			expect(t, "Of", e, api.OK)
			shows(t, "Of", v, s[0], s[1], l...)
		}
	}
}

// P7.1: nil and empty lists are one.
func TestOfNoFloats(t *testing.T) {
	for _, m := range []api.Matrix{{}, {Data: []float64{}}, {Rows: 3}, {Cols: 4, Data: []float64{}}, {Rows: api.MaxSize}, {Cols: api.MaxSize}} {
		v, e := view.Of(m)
		expect(t, "Of", e, api.OK)
		shows(t, "Of", v, m.Rows, m.Cols)
	}
}

// P7.1, P0.9: sizes that may not be, with as many floats as they come to, and with others.
func TestOfSizesRefused(t *testing.T) {
	for _, s := range sizesNot() {
		for _, n := range []int{0, 1, 2, 6, s[0] * s[1]} {
			if n < 0 || n > 1<<19 {
				continue
			}
			v, e := view.Of(matrix(s[0], s[1], make([]float64, n)...))
			expect(t, fmt.Sprint("Of ", s, n), e, api.ErrArg)
			isNone(t, "Of", v)
		}
	}
}

// P7.1: too few floats, and too many.
func TestOfFloatsRefused(t *testing.T) {
	for _, s := range append(someSizes(), [2]int{api.MaxSize, api.MaxSize}) {
		right := s[0] * s[1]
		for _, n := range []int{0, 1, right - 1, right + 1, 2*right + 1, s[0] + s[1] + 1} {
			if n < 0 || n == right {
				continue
			}
			v, e := view.Of(matrix(s[0], s[1], make([]float64, n)...))
			expect(t, fmt.Sprint("Of ", s, n), e, api.ErrArg)
			isNone(t, "Of", v)
		}
	}
}

// P7.1
func TestNew(t *testing.T) {
	for _, s := range append(someSizes(), [2]int{api.MaxSize, api.MaxSize}) {
		v, e := view.New(s[0], s[1])
		expect(t, "New", e, api.OK)
		shows(t, "New", v, s[0], s[1], make([]float64, s[0]*s[1])...)
	}
}

// P7.1, P0.9
func TestNewRefused(t *testing.T) {
	for _, s := range sizesNot() {
		v, e := view.New(s[0], s[1])
		expect(t, fmt.Sprint("New ", s), e, api.ErrArg)
		isNone(t, "New", v)
	}
}

// P7.1: 1 where row and column are the same, 0 (not -0) elsewhere.
func TestEye(t *testing.T) {
	for _, n := range []int{0, 1, 2, 3, 7, api.MaxSize - 1, api.MaxSize} {
		v, e := view.Eye(n)
		expect(t, "Eye", e, api.OK)
		l := make([]float64, n*n)
		for i := range n {
			l[i*n+i] = 1
		}
		shows(t, "Eye", v, n, n, l...)
	}
}

// P7.1, P0.9
func TestEyeRefused(t *testing.T) {
	for _, n := range []int{-1, -2, -api.MaxSize, math.MinInt32, math.MinInt, api.MaxSize + 1, 1 << 32, math.MaxInt32, math.MaxInt} {
		v, e := view.Eye(n)
		expect(t, fmt.Sprint("Eye ", n), e, api.ErrArg)
		isNone(t, "Eye", v)
	}
}
