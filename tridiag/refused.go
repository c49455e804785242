package tridiag

import (
	"math"

	"plumbline/api"
)

// May it be a tridiagonal?
func May(t api.Tri) bool {
	n := len(t.D)
	return sized(n) && len(t.E) == max(n-1, 0)
}

// refused tells why a matrix is not reduced.
func refused(a api.Matrix) api.Errno {
	switch {
	case !sized(a.Rows) || !sized(a.Cols) || len(a.Data) != a.Rows*a.Cols:
		return api.ErrArg
	case a.Rows != a.Cols:
		return api.ErrShape
	case !finite(a.Data):
		return api.ErrFinite
	}
	return api.OK
}

// reduces tells if there are as many reflections as n rows have, each as long as it should be.
func reduces(n int, l ...api.Reflection) bool {
	if len(l) != max(n-2, 0) {
		return false
	}
	for k, h := range l {
		if len(h.V) != n-1-k {
			return false
		}
	}
	return true
}

// sized tells if a matrix may have n rows, or columns.
func sized(n int) bool { return 0 <= n && n <= api.MaxSize }

// finite tells if all of them are.
func finite(l []float64) bool {
	for _, x := range l {
		if math.IsNaN(x) || math.IsInf(x, 0) {
			return false
		}
	}
	return true
}
