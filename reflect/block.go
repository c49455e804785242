package reflect

import "plumbline/api"

// Factor answers what several reflections, done as one, have between them.
func Factor(l ...api.Reflection) (api.Matrix, api.Errno) {
	if e := refused(together(l...)); e != api.OK {
		return api.Matrix{}, e
	}
	k := len(l)
	t := make([]float64, k*k)
	for j, h := range l {
		y := list(j, func(i int) float64 {
			return sum(len(h.V), func(r int) float64 { return float64(l[i].V[r] * h.V[r]) })
		})
		for i := range j {
			behind := t[i*k+i:] // the row i, from the diagonal on
			t[i*k+j] = float64(-h.Tau * sum(j-i, func(m int) float64 { return float64(behind[m] * y[i+m]) }))
		}
		t[j*k+j] = h.Tau
	}
	return api.Matrix{Rows: k, Cols: k, Data: t}, api.OK
}

// Block reflects rows by several reflections at once, of which t is the factor: the first one first.
func Block(a api.Matrix, t api.Matrix, l ...api.Reflection) (api.Matrix, api.Errno) {
	k := len(l)
	good := may(a) && may(t) && together(l...)
	if e := refused(good, t.Rows == k, t.Cols == k, long(a.Rows, l...)); e != api.OK {
		return api.Matrix{}, e
	}
	made := copied(a)
	for c := range a.Cols {
		w := list(k, func(i int) float64 {
			return sum(a.Rows, func(r int) float64 { return float64(l[i].V[r] * a.Data[r*a.Cols+c]) })
		})
		x := list(k, func(i int) float64 {
			return sum(i+1, func(m int) float64 { return float64(t.Data[m*k+i] * w[m]) })
		})
		for r := range a.Rows {
			made.Data[r*a.Cols+c] -= sum(k, func(i int) float64 { return float64(l[i].V[r] * x[i]) })
		}
	}
	return made, api.OK
}

// list answers n floats, by their places.
func list(n int, at func(i int) float64) []float64 {
	made := make([]float64, n)
	for i := range n {
		made[i] = at(i)
	}
	return made
}
