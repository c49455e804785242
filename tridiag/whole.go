package tridiag

import (
	"plumbline/api"
	"plumbline/reflect"
)

// Q answers what the reflections, handed in as Reduce answers them, come to: the first one of them is done last.
func Q(n int, l ...api.Reflection) (api.Matrix, api.Errno) {
	if !sized(n) || !reduces(n, l...) {
		return api.Matrix{}, api.ErrArg
	}
	q := unit(n)
	for done := range l {
		k := len(l) - 1 - done
		turned, e := reflect.Left(q, k+1, k+1, l[k])
		if e != api.OK {
			return api.Matrix{}, e
		}
		q = turned
	}
	return q, api.OK
}

// Full answers a tridiagonal as a matrix, with 0 where it has nothing.
func Full(t api.Tri) (api.Matrix, api.Errno) {
	if !May(t) {
		return api.Matrix{}, api.ErrArg
	}
	n := len(t.D)
	full := noughts(n)
	for i := range n {
		full.Data[i*n+i] = t.D[i]
	}
	for i := range len(t.E) {
		full.Data[i*n+i+1] = t.E[i]
		full.Data[(i+1)*n+i] = t.E[i]
	}
	return full, api.OK
}

// unit has 1 on its diagonal, 0 beside it.
func unit(n int) api.Matrix {
	q := noughts(n)
	for i := range n {
		q.Data[i*n+i] = 1
	}
	return q
}

// noughts has n rows and columns of 0.
func noughts(n int) api.Matrix {
	return api.Matrix{Rows: n, Cols: n, Data: make([]float64, n*n)}
}
