package bidiag

import (
	"plumbline/api"
	"plumbline/kernels"
	"plumbline/reflect"
	"plumbline/view"
)

// Q answers what the columns' reflections, handed in as Reduce answers them, come to.
func Q(m, n int, l ...api.Reflection) (api.Matrix, api.Errno) {
	noughts, e := view.New(m, n)
	if e != api.OK || m < n || !fall(n, m, l...) {
		return api.Matrix{}, api.ErrArg
	}
	return gathered(noughts, 0, l...)
}

// P answers what the rows' reflections, handed in as Reduce answers them, come to.
func P(n int, l ...api.Reflection) (api.Matrix, api.Errno) {
	noughts, e := view.New(n, n)
	if e != api.OK || !fall(max(n-2, 0), n-1, l...) {
		return api.Matrix{}, api.ErrArg
	}
	return gathered(noughts, 1, l...)
}

// gathered puts 1 on the diagonal of noughts, and reflects them: the first reflection, which begins at the row and the column first, is done last.
func gathered(noughts view.View, first int, l ...api.Reflection) (api.Matrix, api.Errno) {
	noughts.Diag().Fill(1)
	made := noughts.Matrix()
	do := func(k int) (e api.Errno) {
		made, e = reflect.Left(made, first+k, first+k, l[k])
		return e
	}
	for done := range len(l) {
		left := len(l) - done
		if e := do(left - 1); e != api.OK {
			return api.Matrix{}, e
		}
	}
	return made, api.OK
}

// Full answers a bidiagonal as a matrix, with 0 where it has nothing.
func Full(b api.Bi) (api.Matrix, api.Errno) {
	v, e := full(b)
	return v.Matrix(), e
}

// full answers a view of a bidiagonal as a matrix.
func full(b api.Bi) (view.View, api.Errno) {
	n := len(b.D)
	v, e := view.New(n, n)
	if e != api.OK || len(b.E) != max(n-1, 0) {
		return view.View{}, api.ErrArg
	}
	set := v.Set
	for i, x := range b.D {
		set(i, i, x)
	}
	for i, x := range b.E {
		set(i, i+1, x)
	}
	return v, api.OK
}

// Product answers q times the bidiagonal, and that times p turned.
func Product(q api.Matrix, b api.Bi, p api.Matrix) (api.Matrix, api.Errno) {
	left, e := view.Of(q)
	middle, f := full(b)
	right, g := view.Of(p)
	n := len(b.D)
	switch {
	case e != api.OK || f != api.OK || g != api.OK:
		return api.Matrix{}, api.ErrArg
	case q.Cols != n || p.Rows != n || p.Cols != n:
		return api.Matrix{}, api.ErrShape
	}
	return times(left, middle, right.T())
}

// times answers the first matrix times the next one, that times the next one, and so on.
func times(made view.View, l ...view.View) (api.Matrix, api.Errno) {
	for _, v := range l {
		// A new one for each: 0 times what is not finite would be a NaN.
		o, e := view.New(made.Rows(), v.Cols())
		if e != api.OK {
			return api.Matrix{}, e
		}
		if e := kernels.Gemm(1, made, v, 0, o); e != api.OK {
			return api.Matrix{}, e
		}
		made = o
	}
	return made.Matrix(), api.OK
}
