package kernels_test

import (
	"plumbline/api"
	"plumbline/kernels"
	"plumbline/soft"
	"plumbline/view"
)

// kernel is a call that writes to one of its views; and what the chapter says of it, by exact numbers that are rounded once each operation.
type kernel struct {
	name           string
	views, written int
	run            func(a, b float64, l []view.View) api.Errno
	fit            func(l [][2]int) bool
	// at is what is to be at a place of the written one; false, if it stays.
	at func(a, b float64, l []api.Matrix, i, j int) (float64, bool)
}

// sumOf begins with 0, and goes on from the place from.
func sumOf(from, behind int, x, y func(k int) float64) float64 {
	acc := 0.0
	for k := from; k < behind; k++ {
		acc = soft.Add(acc, soft.Mul(x(k), y(k)))
	}
	return acc
}

func entry(m api.Matrix, i, j int) float64 { return m.Data[i*m.Cols+j] }

func along(m api.Matrix, i int) func(k int) float64 {
	return func(k int) float64 { return entry(m, i, k) }
}

func down(m api.Matrix, j int) func(k int) float64 {
	return func(k int) float64 { return entry(m, k, j) }
}

func of(v api.Matrix) func(k int) float64 {
	return func(k int) float64 { return v.Data[k] }
}

// both is (b y) + (a s).
func both(b, y, a, s float64) float64 {
	return soft.Add(soft.Mul(b, y), soft.Mul(a, s))
}

// mixed is m + ((a x) y).
func mixed(m, a, x, y float64) float64 {
	return soft.Add(m, soft.Mul(soft.Mul(a, x), y))
}

// writers are all calls that write to one view.
func writers() []kernel {
	l := append(ofVectors(), ofMatrices()...)
	for _, upper := range []bool{false, true} {
		for _, unit := range []bool{false, true} {
			l = append(l, trmm(upper, unit))
		}
	}
	return l
}

func ofVectors() []kernel {
	return []kernel{
		{"Scal", 1, 0,
			func(a, _ float64, l []view.View) api.Errno { return kernels.Scal(a, l[0]) },
			func(l [][2]int) bool { return vector(l[0]) },
			func(a, _ float64, l []api.Matrix, i, j int) (float64, bool) {
				return soft.Mul(a, entry(l[0], i, j)), true
			}},
		{"Axpy", 2, 1,
			func(a, _ float64, l []view.View) api.Errno { return kernels.Axpy(a, l[0], l[1]) },
			func(l [][2]int) bool { return vector(l[0]) && vector(l[1]) && places(l[0]) == places(l[1]) },
			func(a, _ float64, l []api.Matrix, i, j int) (float64, bool) {
				return soft.Add(entry(l[1], i, j), soft.Mul(a, of(l[0])(i+j))), true
			}},
		{"Gemv", 3, 2,
			func(a, b float64, l []view.View) api.Errno { return kernels.Gemv(a, l[0], l[1], b, l[2]) },
			func(l [][2]int) bool {
				return vector(l[1]) && vector(l[2]) && l[0][1] == places(l[1]) && l[0][0] == places(l[2])
			},
			func(a, b float64, l []api.Matrix, i, j int) (float64, bool) {
				s := sumOf(0, l[0].Cols, along(l[0], i+j), of(l[1]))
				return both(b, entry(l[2], i, j), a, s), true
			}},
		{"Symv", 3, 2,
			func(a, b float64, l []view.View) api.Errno { return kernels.Symv(a, l[0], l[1], b, l[2]) },
			func(l [][2]int) bool {
				n := l[0][0]
				return vector(l[1]) && vector(l[2]) && l[0][1] == n && n == places(l[1]) && n == places(l[2])
			},
			func(a, b float64, l []api.Matrix, i, j int) (float64, bool) {
				s := sumOf(0, l[0].Cols, func(k int) float64 { return entry(l[0], max(i+j, k), min(i+j, k)) }, of(l[1]))
				return both(b, entry(l[2], i, j), a, s), true
			}},
		{"Ger", 3, 2,
			func(a, _ float64, l []view.View) api.Errno { return kernels.Ger(a, l[0], l[1], l[2]) },
			func(l [][2]int) bool {
				return vector(l[0]) && vector(l[1]) && l[2] == [2]int{places(l[0]), places(l[1])}
			},
			func(a, _ float64, l []api.Matrix, i, j int) (float64, bool) {
				return mixed(entry(l[2], i, j), a, of(l[0])(i), of(l[1])(j)), true
			}},
	}
}

func ofMatrices() []kernel {
	return []kernel{
		{"Syr2", 3, 2,
			func(a, _ float64, l []view.View) api.Errno { return kernels.Syr2(a, l[0], l[1], l[2]) },
			func(l [][2]int) bool {
				return vector(l[0]) && vector(l[1]) && l[2] == [2]int{places(l[0]), places(l[1])} && l[2][0] == l[2][1]
			},
			func(a, _ float64, l []api.Matrix, i, j int) (float64, bool) {
				if j > i {
					return 0, false
				}
				x, y := of(l[0]), of(l[1])
				return mixed(mixed(entry(l[2], i, j), a, x(i), y(j)), a, y(i), x(j)), true
			}},
		{"Gemm", 3, 2,
			func(a, b float64, l []view.View) api.Errno { return kernels.Gemm(a, l[0], l[1], b, l[2]) },
			func(l [][2]int) bool { return l[0][1] == l[1][0] && l[2] == [2]int{l[0][0], l[1][1]} },
			func(a, b float64, l []api.Matrix, i, j int) (float64, bool) {
				s := sumOf(0, l[0].Cols, along(l[0], i), down(l[1], j))
				return both(b, entry(l[2], i, j), a, s), true
			}},
		{"Syr2k", 3, 2,
			func(a, b float64, l []view.View) api.Errno { return kernels.Syr2k(a, l[0], l[1], b, l[2]) },
			func(l [][2]int) bool { return l[0] == l[1] && l[2] == [2]int{l[0][0], l[0][0]} },
			func(a, b float64, l []api.Matrix, i, j int) (float64, bool) {
				if j > i {
					return 0, false
				}
				s := sumOf(0, l[0].Cols, along(l[0], i), along(l[1], j))
				u := sumOf(0, l[0].Cols, along(l[1], i), along(l[0], j))
				return both(b, entry(l[2], i, j), a, soft.Add(s, u)), true
			}},
	}
}

func trmm(upper, unit bool) kernel {
	name := map[bool]string{false: "lower", true: "upper"}[upper] + map[bool]string{true: " unit"}[unit]
	return kernel{"Trmm " + name, 2, 1,
		func(_, _ float64, l []view.View) api.Errno { return kernels.Trmm(upper, unit, l[0], l[1]) },
		func(l [][2]int) bool { return l[0][0] == l[0][1] && l[0][0] == l[1][0] },
		func(_, _ float64, l []api.Matrix, i, j int) (float64, bool) {
			from, behind := 0, i+1
			if upper {
				from, behind = i, l[0].Rows
			}
			t := func(k int) float64 {
				if unit && k == i {
					return 1
				}
				return entry(l[0], i, k)
			}
			return sumOf(from, behind, t, down(l[1], j)), true
		}}
}
