package guard

import (
	"math"
	"math/bits"

	"plumbline/api"
)

const (
	mostScale = 2000
	far       = 2200 // times 2^far each size is an infinity, times 2^-far each is 0
)

// Power answers the least p with all entries' sizes below 2^p; 0, if all are 0.
func Power(a api.Matrix) (int, api.Errno) {
	if e := wrong(a); e != api.OK {
		return 0, e
	}
	var greatest uint64
	for _, x := range a.Data {
		greatest = max(greatest, size(math.Float64bits(x)))
	}
	if greatest == 0 {
		return 0, api.OK
	}
	man, exp := apart(greatest)
	return exp + bits.Len64(man), api.OK
}

// Scale answers the matrix of each entry's Times.
func Scale(a api.Matrix, p int) (api.Matrix, api.Errno) {
	if p < -mostScale || p > mostScale {
		return api.Matrix{}, api.ErrArg
	}
	if e := wrong(a); e != api.OK {
		return api.Matrix{}, e
	}
	scaled := api.Matrix{Rows: a.Rows, Cols: a.Cols}
	for i := range a.Rows * a.Cols {
		scaled.Data = append(scaled.Data, Times(a.Data[i], p))
	}
	return scaled, api.OK
}

// Times answers x times 2^p, rounded once.
func Times(x float64, p int) float64 {
	w := math.Float64bits(x)
	if !finite(w) || size(w) == 0 {
		return x
	}
	man, exp := apart(w)
	// What is farther comes to the same, and a sum with it might wrap round.
	p = max(-far, min(p, far))
	return math.Float64frombits(w&sign | together(man, exp+p))
}

// wrong answers why a matrix is refused, if it is.
func wrong(a api.Matrix) api.Errno {
	switch {
	case !sized(a.Rows, a.Cols):
		return api.ErrArg
	case !May(a):
		return api.ErrShape
	case !Finite(a.Data...):
		return api.ErrFinite
	}
	return api.OK
}
