package kernels

import (
	"math"

	"plumbline/api"
	"plumbline/view"
)

// Dot answers the sum of the products of two vectors.
func Dot(x, y view.View) (float64, api.Errno) {
	if e := refused(alike(x, y), x, y); e != api.OK {
		return 0, e
	}
	return dot(floats(x), floats(y)), api.OK
}

// Asum answers the sum of a vector's floats without their signs.
func Asum(x view.View) (float64, api.Errno) {
	if e := refused(x.Vector(), x); e != api.OK {
		return 0, e
	}
	l := floats(x)
	return sum(len(l), func(k int) float64 { return math.Abs(l[k]) }), api.OK
}

// Amax answers the first place of the greatest float without its sign, and that; -1 and 0 where all are NaNs, or there is none.
func Amax(x view.View) (int, float64, api.Errno) {
	if e := refused(x.Vector(), x); e != api.OK {
		return 0, 0, e
	}
	place, greatest := -1, 0.0
	for i, f := range floats(x) {
		size := math.Abs(f)
		if size > greatest || place < 0 && size == greatest {
			place, greatest = i, size
		}
	}
	return place, greatest, api.OK
}

// Scal makes each place of a vector a times what it was.
func Scal(a float64, x view.View) api.Errno {
	if e := refused(x.Vector(), x); e != api.OK {
		return e
	}
	put := x.Put
	for k, f := range floats(x) {
		put(k, float64(a*f))
	}
	return api.OK
}

// Axpy adds a times x to y.
func Axpy(a float64, x, y view.View) api.Errno {
	if e := refused(alike(x, y), x, y); e != api.OK {
		return e
	}
	put, was := y.Put, floats(y)
	for k, f := range floats(x) {
		put(k, was[k]+float64(a*f))
	}
	return api.OK
}

// Swap gives each what the other one had.
func Swap(x, y view.View) api.Errno {
	fit := sized(x, y.Rows(), y.Cols()) && !x.Shares(y)
	if e := refused(fit, x, y); e != api.OK {
		return e
	}
	was := x.Copy()
	x.Take(y)
	y.Take(was)
	return api.OK
}
