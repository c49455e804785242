package tridiag_test

import (
	"math"

	"plumbline/api"
	"plumbline/reflect"
	"plumbline/soft"
)

// way is how the model reckons what the chapter writes; a way that is not the chapter's tells if a test's matrices can tell them apart.
type way struct {
	column func(a [][]float64, k int) []float64 // from the row k + 1 on
	p      func(a [][]float64, i, k int, v []float64, tau float64) float64
	dot    func(x, y []float64) float64
	c      func(tau, sum float64) float64
	w      func(p, c, v float64) float64
	less   func(a, vi, wj, wi, vj float64) float64
	last   func(a [][]float64) float64
	skips  bool // a Tau of 0
}

// said is the chapter's way, by exact numbers that are rounded once each operation.
func said() way {
	return way{
		column: func(a [][]float64, k int) []float64 {
			var l []float64
			for _, row := range a[k+1:] {
				l = append(l, row[k])
			}
			return l
		},
		p: func(a [][]float64, i, k int, v []float64, tau float64) float64 {
			return soft.Mul(tau, dotOf(a[i][k+1:], v))
		},
		dot: dotOf,
		c: func(tau, sum float64) float64 {
			return soft.Mul(-soft.Mul(0.5, tau), sum)
		},
		w: func(p, c, v float64) float64 { return soft.Add(p, soft.Mul(c, v)) },
		less: func(a, vi, wj, wi, vj float64) float64 {
			return soft.Sub(a, soft.Add(soft.Mul(vi, wj), soft.Mul(wi, vj)))
		},
		last:  func(a [][]float64) float64 { return a[len(a)-1][len(a)-2] },
		skips: true,
	}
}

func dotOf(x, y []float64) float64 {
	acc := 0.0
	for i := range x {
		acc = soft.Add(acc, soft.Mul(x[i], y[i]))
	}
	return acc
}

func rowsOf(a api.Matrix) [][]float64 {
	var rows [][]float64
	for i := range a.Rows {
		rows = append(rows, append(few(), a.Data[i*a.Cols:(i+1)*a.Cols]...))
	}
	return rows
}

// reduces answers what becomes of a matrix in that way.
func (y way) reduces(m api.Matrix) reduced {
	a, n := rowsOf(m), m.Rows
	var r reduced
	for k := 0; k <= n-3; k++ {
		h, beta, _ := reflect.Make(y.column(a, k)...)
		r.t.D, r.t.E, r.l = append(r.t.D, a[k][k]), append(r.t.E, beta), append(r.l, h)
		if h.Tau != 0 || !y.skips {
			y.turns(a, k, h)
		}
	}
	for k := max(n-2, 0); k < n; k++ {
		r.t.D = append(r.t.D, a[k][k])
	}
	if n >= 2 {
		r.t.E = append(r.t.E, y.last(a))
	}
	return r
}

// turns does the reflection that was made at k.
func (y way) turns(a [][]float64, k int, h api.Reflection) {
	var p, w []float64
	for i := range h.V {
		p = append(p, y.p(a, k+1+i, k, h.V, h.Tau))
	}
	c := y.c(h.Tau, y.dot(p, h.V))
	for i, v := range h.V {
		w = append(w, y.w(p[i], c, v))
	}
	for i := range h.V {
		for j := range h.V {
			x := &a[k+1+i][k+1+j]
			*x = y.less(*x, h.V[i], w[j], w[i], h.V[j])
		}
	}
}

// others are ways that are not the chapter's, by what is otherwise in them.
func others() map[string]way {
	all := map[string]way{}
	with := func(name string, change func(y *way)) {
		y := said()
		change(&y)
		all[name] = y
	}
	backwards := func(x, v []float64) float64 {
		acc := 0.0
		for i := len(x) - 1; i >= 0; i-- {
			acc += float64(x[i] * v[i])
		}
		return acc
	}
	fused := func(x, v []float64) float64 {
		acc := 0.0
		for i := range x {
			acc = math.FMA(x[i], v[i], acc)
		}
		return acc
	}
	first := func(x, v []float64) float64 {
		acc := x[0] * v[0]
		for i := 1; i < len(x); i++ {
			acc += float64(x[i] * v[i])
		}
		return acc
	}
	for name, dot := range map[string]func(x, v []float64) float64{"backwards": backwards, "fused": fused, "from the first on": first} {
		with("p "+name, func(y *way) {
			y.p = func(a [][]float64, i, k int, v []float64, tau float64) float64 { return tau * dot(a[i][k+1:], v) }
		})
	}
	// From the first on c would be the same but for a nought's sign, which is lost where w is reckoned, as p is never -0.
	with("c backwards", func(y *way) { y.dot = backwards })
	with("c fused", func(y *way) { y.dot = fused })
	with("p of columns", func(y *way) {
		y.p = func(a [][]float64, i, k int, v []float64, tau float64) float64 {
			var x []float64
			for _, row := range a[k+1:] {
				x = append(x, row[i])
			}
			return tau * dotOf(x, v)
		}
	})
	with("p of each term times Tau", func(y *way) {
		y.p = func(a [][]float64, i, k int, v []float64, tau float64) float64 {
			acc := 0.0
			for j := range v {
				acc += float64(float64(tau*a[i][k+1+j]) * v[j])
			}
			return acc
		}
	})
	with("c by Tau first", func(y *way) { y.c = func(tau, sum float64) float64 { return -(0.5 * float64(tau*sum)) } })
	with("w fused", func(y *way) { y.w = func(p, c, v float64) float64 { return math.FMA(c, v, p) } })
	with("less one by one", func(y *way) {
		y.less = func(a, vi, wj, wi, vj float64) float64 { return a - float64(vi*wj) - float64(wi*vj) }
	})
	with("less fused in the first", func(y *way) {
		y.less = func(a, vi, wj, wi, vj float64) float64 { return a - math.FMA(vi, wj, wi*vj) }
	})
	with("less fused in the second", func(y *way) {
		y.less = func(a, vi, wj, wi, vj float64) float64 { return a - math.FMA(wi, vj, vi*wj) }
	})
	with("column as a row", func(y *way) {
		y.column = func(a [][]float64, k int) []float64 { return a[k][k+1:] }
	})
	with("last above", func(y *way) { y.last = func(a [][]float64) float64 { return a[len(a)-2][len(a)-1] } })
	with("Tau 0 done", func(y *way) { y.skips = false })
	return all
}

// qOf is what the chapter says of Q.
func qOf(n int, l []api.Reflection) api.Matrix {
	m := unit(n)
	for k := n - 3; k >= 0; k-- {
		if l[k].Tau == 0 {
			continue
		}
		for col := k + 1; col < n; col++ {
			acc := 0.0
			for i, v := range l[k].V {
				acc = soft.Add(acc, soft.Mul(v, entry(m, k+1+i, col)))
			}
			w := soft.Mul(l[k].Tau, acc)
			for i, v := range l[k].V {
				x := &m.Data[(k+1+i)*n+col]
				*x = soft.Sub(*x, soft.Mul(v, w))
			}
		}
	}
	return m
}
