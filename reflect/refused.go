package reflect

import "plumbline/api"

// refused tells why a call is: what may not be comes ahead of what does not fit.
func refused(good bool, fits ...bool) api.Errno {
	if !good {
		return api.ErrArg
	}
	for _, fit := range fits {
		if !fit {
			return api.ErrShape
		}
	}
	return api.OK
}

// may tells if it may be a matrix.
func may(a api.Matrix) bool {
	return sized(a.Rows) && sized(a.Cols) && len(a.Data) == a.Rows*a.Cols
}

// sized tells if a matrix may have n rows, or columns.
func sized(n int) bool { return 0 <= n && n <= api.MaxSize }

// together tells if there are reflections, with entries, each with as many as the first one.
func together(l ...api.Reflection) bool {
	return len(l) > 0 && len(l[0].V) > 0 && long(len(l[0].V), l...)
}

// long tells if each of them has n entries.
func long(n int, l ...api.Reflection) bool {
	for _, h := range l {
		if len(h.V) != n {
			return false
		}
	}
	return true
}
