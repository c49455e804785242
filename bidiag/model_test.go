package bidiag_test

import (
	"math"

	"plumbline/api"
	"plumbline/reflect"
	"plumbline/soft"
)

// done is how a reflection is done on a row or a column.
type done struct {
	w     func(tau float64, v, x []float64) float64
	less  func(x, v, w float64) float64
	skips bool // a Tau of 0
}

// way is how the model reckons what the chapter writes; a way that is not the chapter's tells if a test's matrices can tell them apart. What was was ahead of the column's reflection.
type way struct {
	left, right done
	column      func(a [][]float64, k int) []float64
	row         func(a, was [][]float64, k int) []float64 // also where it is one entry alone, which is E's
	d           func(beta float64, a [][]float64, k int) float64
}

// said is the chapter's way, by exact numbers that are rounded once each operation.
func said() way {
	h := done{
		w:     func(tau float64, v, x []float64) float64 { return soft.Mul(tau, dotOf(v, x)) },
		less:  func(x, v, w float64) float64 { return soft.Sub(x, soft.Mul(v, w)) },
		skips: true,
	}
	return way{
		left: h, right: h,
		column: columnOf,
		row:    func(a, _ [][]float64, k int) []float64 { return a[k][k+1:] },
		d:      func(beta float64, _ [][]float64, _ int) float64 { return beta },
	}
}

func dotOf(x, y []float64) float64 {
	acc := 0.0
	for i := range x {
		acc = soft.Add(acc, soft.Mul(x[i], y[i]))
	}
	return acc
}

func rowsOf(a api.Matrix) [][]float64 {
	var rows [][]float64
	for i := range a.Rows {
		rows = append(rows, append(few(), a.Data[i*a.Cols:(i+1)*a.Cols]...))
	}
	return rows
}

// columnOf is the column k from the row k on.
func columnOf(a [][]float64, k int) []float64 {
	var l []float64
	for _, row := range a[k:] {
		l = append(l, row[k])
	}
	return l
}

// on answers what becomes of a row or a column.
func (d done) on(h api.Reflection, x []float64) []float64 {
	if h.Tau == 0 && d.skips {
		return x
	}
	w := d.w(h.Tau, h.V, x)
	var made []float64
	for i, v := range h.V {
		made = append(made, d.less(x[i], v, w))
	}
	return made
}

// leftOf reflects the rows from at on, in the columns from from on.
func (d done) leftOf(a [][]float64, at, from int, h api.Reflection) {
	for k := from; k < len(a[at]); k++ {
		var x []float64
		for _, row := range a[at:] {
			x = append(x, row[k])
		}
		for i, f := range d.on(h, x) {
			a[at+i][k] = f
		}
	}
}

// rightOf reflects the columns from at on, in the rows from from on.
func (d done) rightOf(a [][]float64, at, from int, h api.Reflection) {
	for _, row := range a[from:] {
		copy(row[at:], d.on(h, append(few(), row[at:]...)))
	}
}

// reduces answers what becomes of a matrix in that way.
func (y way) reduces(m api.Matrix) reduced {
	a, n := rowsOf(m), m.Cols
	var r reduced
	for k := range n {
		h, beta, _ := reflect.Make(y.column(a, k)...)
		was := rowsOf(m)
		for i, row := range a {
			copy(was[i], row)
		}
		y.left.leftOf(a, k, k+1, h)
		r.b.D, r.h = append(r.b.D, y.d(beta, a, k)), append(r.h, h)
		if k+2 < n {
			g, beta, _ := reflect.Make(y.row(a, was, k)...)
			y.right.rightOf(a, k+1, k+1, g)
			r.b.E, r.g = append(r.b.E, beta), append(r.g, g)
		}
		if k+2 == n {
			r.b.E = append(r.b.E, y.row(a, was, k)[0])
		}
	}
	return r
}

// others are ways that are not the chapter's, by what is otherwise in them.
func others() map[string]way {
	all := map[string]way{}
	with := func(name string, change func(y *way)) {
		y := said()
		change(&y)
		all[name] = y
	}
	for name, change := range othersDone() {
		with("left "+name, func(y *way) { change(&y.left) })
		with("right "+name, func(y *way) { change(&y.right) })
	}
	with("row as it was", func(y *way) {
		y.row = func(a, was [][]float64, k int) []float64 { return was[k][k+1:] }
	})
	with("last as it was", func(y *way) {
		y.row = func(a, was [][]float64, k int) []float64 {
			if k+2 == len(a[k]) {
				return was[k][k+1:]
			}
			return a[k][k+1:]
		}
	})
	with("last below", func(y *way) {
		y.row = func(a, was [][]float64, k int) []float64 {
			if k+2 == len(a[k]) {
				return a[k+1][k:]
			}
			return a[k][k+1:]
		}
	})
	with("D as it is", func(y *way) {
		y.d = func(_ float64, a [][]float64, k int) float64 { return a[k][k] }
	})
	with("row as a column", func(y *way) {
		y.row = func(a, _ [][]float64, k int) []float64 { return columnOf(a, k)[1 : len(a[k])-k] }
	})
	with("column not from k on", func(y *way) {
		y.column = func(a [][]float64, k int) []float64 {
			l := columnOf(a, k)
			l[0] = 0
			return l
		}
	})
	return all
}

// othersDone are reflections that are done otherwise.
func othersDone() map[string]func(d *done) {
	all := map[string]func(d *done){
		"each term times Tau": func(d *done) {
			d.w = func(tau float64, v, x []float64) float64 {
				acc := 0.0
				for i := range v {
					acc += float64(float64(tau*v[i]) * x[i])
				}
				return acc
			}
		},
		"less fused": func(d *done) {
			d.less = func(x, v, w float64) float64 { return math.FMA(-v, w, x) }
		},
		"Tau 0 done": func(d *done) { d.skips = false },
	}
	for name, dot := range map[string]func(v, x []float64) float64{
		"backwards": func(v, x []float64) float64 {
			acc := 0.0
			for i := len(x) - 1; i >= 0; i-- {
				acc += float64(v[i] * x[i])
			}
			return acc
		},
		"fused": func(v, x []float64) float64 {
			acc := 0.0
			for i := range x {
				acc = math.FMA(v[i], x[i], acc)
			}
			return acc
		},
		"from the first on": func(v, x []float64) float64 {
			acc := v[0] * x[0]
			for i := 1; i < len(x); i++ {
				acc += float64(v[i] * x[i])
			}
			return acc
		},
	} {
		all[name] = func(d *done) {
			d.w = func(tau float64, v, x []float64) float64 { return tau * dot(v, x) }
		}
	}
	return all
}

// gatheredOf is what the chapter says of Q, and, with 1 for first, of P.
func gatheredOf(m, n, first int, l []api.Reflection) api.Matrix {
	rows := rowsOf(unit(m, n))
	for k := len(l) - 1; k >= 0; k-- {
		said().left.leftOf(rows, first+k, first+k, l[k])
	}
	made := matrix(m, n)
	for _, row := range rows {
		made.Data = append(made.Data, row...)
	}
	return made
}

func qOf(m, n int, l []api.Reflection) api.Matrix { return gatheredOf(m, n, 0, l) }

func pOf(n int, l []api.Reflection) api.Matrix { return gatheredOf(n, n, 1, l) }

// productOf is what the chapter says of Product: (0 o) + (1 s) of each sum, o being 0.
func productOf(left api.Matrix, b api.Bi, right api.Matrix) api.Matrix {
	return timesOf(timesOf(left, bidiagonal(len(b.D), b)), turned(right))
}

func timesOf(a, b api.Matrix) api.Matrix {
	made := matrix(a.Rows, b.Cols)
	columns := rowsOf(turned(b))
	for _, row := range rowsOf(a) {
		for _, column := range columns {
			made.Data = append(made.Data, soft.Add(soft.Mul(0, 0), soft.Mul(1, dotOf(row, column))))
		}
	}
	return made
}
