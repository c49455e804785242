package kernels

import (
	"plumbline/api"
	"plumbline/view"
)

// Gemm makes o b times what it was, and a times m times n added to it.
func Gemm(a float64, m, n view.View, b float64, o view.View) api.Errno {
	fit := m.Cols() == n.Rows() && sized(o, m.Rows(), n.Cols())
	if e := refused(fit, m, n, o); e != api.OK {
		return e
	}
	set, columns, was := o.Set, rows(n.T()), rows(o)
	for i, row := range rows(m) {
		for j, column := range columns {
			set(i, j, float64(b*was[i][j])+float64(a*dot(row, column)))
		}
	}
	return api.OK
}

// Syr2k makes the lower places of o b times what they were, and a times m times n turned, and n times m turned, added to them.
func Syr2k(a float64, m, n view.View, b float64, o view.View) api.Errno {
	fit := sized(m, n.Rows(), n.Cols()) && sized(o, m.Rows(), m.Rows())
	if e := refused(fit, m, n, o); e != api.OK {
		return e
	}
	set, f, g := o.Set, rows(m), rows(n)
	for i, j := range lower(o.Rows()) {
		both := dot(f[i], g[j]) + dot(g[i], f[j])
		set(i, j, float64(b*o.At(i, j))+float64(a*both))
	}
	return api.OK
}

// Trmm makes m t times what it was; t has its lower places alone, or the upper ones, and, if unit, 1 on its diagonal.
func Trmm(upper, unit bool, t, m view.View) api.Errno {
	fit := sized(t, m.Rows(), m.Rows())
	if e := refused(fit, t, m); e != api.OK {
		return e
	}
	set, columns := m.Set, rows(m.T())
	for i, row := range rows(t) {
		from, behind := 0, i+1
		if upper {
			from, behind = i, len(row)
		}
		if unit {
			row[i] = 1
		}
		for j, column := range columns {
			set(i, j, dot(row[from:behind], column[from:behind]))
		}
	}
	return api.OK
}
