package kernels

import (
	"plumbline/api"
	"plumbline/view"
)

// Gemv makes y b times what it was, and a times m times x added to it.
func Gemv(a float64, m, x view.View, b float64, y view.View) api.Errno {
	fit := x.Vector() && y.Vector() && sized(m, y.Len(), x.Len())
	if e := refused(fit, m, x, y); e != api.OK {
		return e
	}
	times(a, rows(m), floats(x), b, y)
	return api.OK
}

// Symv is Gemv of a symmetric m, of which it reads the lower places.
func Symv(a float64, m, x view.View, b float64, y view.View) api.Errno {
	fit := alike(x, y) && sized(m, x.Len(), x.Len())
	if e := refused(fit, m, x, y); e != api.OK {
		return e
	}
	times(a, mirrored(m), floats(x), b, y)
	return api.OK
}

// times makes y b times what it was, and a times the rows' sums with x added to it.
func times(a float64, m [][]float64, x []float64, b float64, y view.View) {
	put, was := y.Put, floats(y)
	for i, row := range m {
		put(i, float64(b*was[i])+float64(a*dot(row, x)))
	}
}

// mirrored are the rows of a symmetric matrix, by its lower places.
func mirrored(m view.View) [][]float64 {
	full := rows(m)
	for i, j := range lower(len(full)) {
		full[j][i] = full[i][j]
	}
	return full
}

// Ger adds a times the products of x, by the rows, and y, by the columns, to m.
func Ger(a float64, x, y, m view.View) api.Errno {
	fit := x.Vector() && y.Vector() && sized(m, x.Len(), y.Len())
	if e := refused(fit, x, y, m); e != api.OK {
		return e
	}
	set, across, was := m.Set, floats(y), rows(m)
	for i, f := range floats(x) {
		for j, g := range across {
			set(i, j, was[i][j]+float64(float64(a*f)*g))
		}
	}
	return api.OK
}

// Syr2 adds a times the products of x and y, and those of y and x, to the lower places of m.
func Syr2(a float64, x, y, m view.View) api.Errno {
	fit := alike(x, y) && sized(m, x.Len(), x.Len())
	if e := refused(fit, x, y, m); e != api.OK {
		return e
	}
	set, f, g := m.Set, floats(x), floats(y)
	for i, j := range lower(m.Rows()) {
		first := m.At(i, j) + float64(float64(a*f[i])*g[j])
		set(i, j, first+float64(float64(a*g[i])*f[j]))
	}
	return api.OK
}
