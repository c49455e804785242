package bidiag

import (
	"math"

	"plumbline/api"
	"plumbline/view"
)

// taken answers a view of a matrix that is to be reduced, or why it is refused.
func taken(a api.Matrix) (view.View, api.Errno) {
	v, e := view.Of(a)
	switch {
	case e != api.OK:
		return view.View{}, e
	case a.Rows < a.Cols:
		return view.View{}, api.ErrShape
	case !finite(a.Data):
		return view.View{}, api.ErrFinite
	}
	return v, api.OK
}

// finite tells if all of them are.
func finite(l []float64) bool {
	for _, x := range l {
		if math.IsNaN(x) || math.IsInf(x, 0) {
			return false
		}
	}
	return true
}

// fall tells if there are n reflections, the first one of so many entries, each of the next ones of one fewer.
func fall(n, entries int, l ...api.Reflection) bool {
	if len(l) != n {
		return false
	}
	for k, h := range l {
		if len(h.V) != entries-k {
			return false
		}
	}
	return true
}
