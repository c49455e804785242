package guard_test

import (
	"math"
	"testing"

	"plumbline/api"
	"plumbline/guard"
)

// P5.2
func TestMay(t *testing.T) {
	for _, m := range []int{0, 1, 2, 5, api.MaxSize - 1, api.MaxSize} {
		for _, n := range []int{0, 1, 2, 7, api.MaxSize - 1, api.MaxSize} {
			for _, more := range []int{-1, 0, 1} {
				if l := m*n + more; l >= 0 && guard.May(matrix(m, n, make([]float64, l)...)) != (more == 0) {
					t.Error(m, n, l)
				}
			}
			if guard.May(api.Matrix{Rows: m, Cols: n}) != (m*n == 0) {
				t.Error(m, n)
			}
		}
	}
	if !guard.May(api.Matrix{}) || !guard.May(api.Matrix{Data: []float64{}}) {
		t.Error("an empty one")
	}
}

// P5.2: whatever floats it has.
func TestMayOfAnyFloats(t *testing.T) {
	for _, f := range append(append(endlessFloats(), outside()...), inside()...) {
		if !guard.May(row(f)) || !guard.May(matrix(2, 1, f, f)) || guard.May(matrix(2, 1, f)) {
			t.Error(f)
		}
	}
}

// P5.2, P0.9: sizes that may not be.
func TestMayNot(t *testing.T) {
	for _, s := range sizesNot() {
		for _, l := range []int{0, 1, s[0] * s[1]} {
			if 0 <= l && l <= 1<<20 && guard.May(matrix(s[0], s[1], make([]float64, l)...)) {
				t.Error(s, l)
			}
		}
	}
	if guard.May(matrix(-2, -3, make([]float64, 6)...)) || guard.May(api.Matrix{Rows: 1 << 62, Cols: 4}) || guard.May(api.Matrix{Rows: 1 << 32, Cols: 1 << 32}) {
		t.Error("below 0, or too great")
	}
}

// P5.2: of none, of one, of many; and one that is not, at each place.
func TestFinite(t *testing.T) {
	l := append(append(inside(), outside()...), anyFloats(1000, 6)...)
	if !guard.Finite() || !guard.Finite(nil...) || !guard.Finite(l...) {
		t.Error("all are finite")
	}
	for _, f := range l {
		if !guard.Finite(f) || !guard.Finite(0, f) {
			t.Errorf("%x is finite", f)
		}
	}
	for i, f := range endlessFloats() {
		if guard.Finite(f) || guard.Finite(f, 1) || guard.Finite(1, f) || guard.Finite(1, f, 1) {
			t.Errorf("%x is not finite", endless()[i])
		}
		was := l[len(l)-1-i]
		l[len(l)-1-i] = f
		if guard.Finite(l...) {
			t.Errorf("%x is not finite", endless()[i])
		}
		l[len(l)-1-i] = was
	}
}

// P5.2
func TestInRange(t *testing.T) {
	for _, w := range words(inside()...) {
		if !guard.InRange(w) {
			t.Errorf("%x is in range", w)
		}
	}
	for _, w := range append(words(outside()...), endless()...) {
		if guard.InRange(w) {
			t.Errorf("%x is not in range", w)
		}
	}
}

// P5.2: any words, held against comparisons of floats.
func TestInRangeOfAny(t *testing.T) {
	next := stream(7)
	for i := range 200000 {
		w := next()
		if i%2 == 0 { // about the ends
			w = words(0x1p-400, 0x1p400, -0x1p-400, -0x1p400)[i/2%4] + w%8 - 4
		}
		size := math.Abs(math.Float64frombits(w))
		if want := size == 0 || 0x1p-400 <= size && size <= 0x1p400; guard.InRange(w) != want {
			t.Fatalf("%x: %v", w, !want)
		}
	}
}
