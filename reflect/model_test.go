package reflect_test

import (
	"math"

	"plumbline/api"
	"plumbline/soft"
)

// What the chapter says, by exact numbers that are rounded once each operation.

func hypotOf(x, y float64) float64 {
	p, q := math.Abs(x), math.Abs(y)
	if q > p {
		p, q = q, p
	}
	if p == 0 {
		return p
	}
	r := soft.Div(q, p)
	return soft.Mul(p, soft.Sqrt(soft.Add(1, soft.Mul(r, r))))
}

func normOf(l []float64) float64 {
	scale, sum := 0.0, 1.0
	for _, x := range l {
		a := math.Abs(x)
		if a == 0 {
			continue
		}
		if scale < a {
			r := soft.Div(scale, a)
			sum = soft.Add(1, soft.Mul(soft.Mul(sum, r), r))
			scale = a
		} else {
			r := soft.Div(a, scale)
			sum = soft.Add(sum, soft.Mul(r, r))
		}
	}
	return soft.Mul(scale, soft.Sqrt(sum))
}

func makeOf(x []float64) (v []float64, tau, beta float64) {
	v = make([]float64, len(x))
	v[0] = 1
	length := normOf(x[1:])
	if length == 0 {
		return v, 0, x[0]
	}
	beta = -math.Copysign(hypotOf(x[0], length), x[0])
	q := soft.Div(1, soft.Sub(x[0], beta))
	for i := 1; i < len(x); i++ {
		v[i] = soft.Mul(x[i], q)
	}
	return v, soft.Div(soft.Sub(beta, x[0]), beta), beta
}

func leftOf(a api.Matrix, at, from int, h api.Reflection) api.Matrix {
	b := clone(a)
	for k := from; k < a.Cols && h.Tau != 0; k++ {
		acc := 0.0
		for i, v := range h.V {
			acc = soft.Add(acc, soft.Mul(v, entry(a, at+i, k)))
		}
		w := soft.Mul(h.Tau, acc)
		for i, v := range h.V {
			b.Data[(at+i)*a.Cols+k] = soft.Sub(entry(a, at+i, k), soft.Mul(v, w))
		}
	}
	return b
}

func rightOf(a api.Matrix, at, from int, h api.Reflection) api.Matrix {
	b := clone(a)
	for i := from; i < a.Rows && h.Tau != 0; i++ {
		acc := 0.0
		for k, v := range h.V {
			acc = soft.Add(acc, soft.Mul(entry(a, i, at+k), v))
		}
		w := soft.Mul(h.Tau, acc)
		for k, v := range h.V {
			b.Data[i*a.Cols+at+k] = soft.Sub(entry(a, i, at+k), soft.Mul(w, v))
		}
	}
	return b
}

func factorOf(l []api.Reflection) api.Matrix {
	k := len(l)
	t := matrix(k, k, make([]float64, k*k)...)
	for j, h := range l {
		t.Data[j*k+j] = h.Tau
		for i := range j {
			acc := 0.0
			for m := i; m < j; m++ {
				y := 0.0
				for r := range h.V {
					y = soft.Add(y, soft.Mul(l[m].V[r], h.V[r]))
				}
				acc = soft.Add(acc, soft.Mul(entry(t, i, m), y))
			}
			t.Data[i*k+j] = soft.Mul(-h.Tau, acc)
		}
	}
	return t
}

func blockOf(a, t api.Matrix, l []api.Reflection) api.Matrix {
	b, k := clone(a), len(l)
	for c := range a.Cols {
		w, x := make([]float64, k), make([]float64, k)
		for i, h := range l {
			for r, v := range h.V {
				w[i] = soft.Add(w[i], soft.Mul(v, entry(a, r, c)))
			}
			for m := 0; m <= i; m++ {
				x[i] = soft.Add(x[i], soft.Mul(entry(t, m, i), w[m]))
			}
		}
		for r := range a.Rows {
			acc := 0.0
			for i, h := range l {
				acc = soft.Add(acc, soft.Mul(h.V[r], x[i]))
			}
			b.Data[r*a.Cols+c] = soft.Sub(entry(a, r, c), acc)
		}
	}
	return b
}
