package guard_test

import (
	"math"
	"math/big"
	"slices"
	"testing"

	"plumbline/api"
)

const (
	least     = math.SmallestNonzeroFloat64
	most      = math.MaxFloat64
	normal    = 0x1p-1022 // the least normal one
	greatSub  = normal - least
	most32    = math.MaxInt32
	least32   = math.MinInt32
	minusZero = 1 << 63 // a word
)

var (
	inf   = math.Inf(1)
	nan   = math.NaN()
	minus = math.Copysign(0, -1) // -0
)

// alike tells if both are the same float, bit by bit, NaNs being one.
func alike(x, y float64) bool {
	return math.Float64bits(x) == math.Float64bits(y) || x != x && y != y
}

// matrix answers one with new entries.
func matrix(m, n int, l ...float64) api.Matrix {
	return api.Matrix{Rows: m, Cols: n, Data: slices.Clone(l)}
}

func row(l ...float64) api.Matrix { return matrix(1, len(l), l...) }

func same(a, b api.Matrix) bool {
	return a.Rows == b.Rows && a.Cols == b.Cols && slices.EqualFunc(a.Data, b.Data, alike)
}

// none tells if it is a zero matrix.
func none(a api.Matrix) bool {
	return a.Rows == 0 && a.Cols == 0 && a.Data == nil
}

// short is what of a matrix can be read.
func short(a api.Matrix) api.Matrix {
	a.Data = a.Data[:min(len(a.Data), 9)]
	return a
}

// words are the floats' bits.
func words(l ...float64) []uint64 {
	w := make([]uint64, len(l))
	for i, f := range l {
		w[i] = math.Float64bits(f)
	}
	return w
}

// stream answers words by a rule that is not to be seen in them.
func stream(seed uint64) func() uint64 {
	return func() uint64 {
		seed = seed*6364136223846793005 + 1442695040888963407
		return (seed ^ seed>>29) * 0x9E3779B97F4A7C15
	}
}

func withSigns(l ...float64) []float64 {
	for _, f := range l {
		l = append(l, -f)
	}
	return l
}

// inside are floats in range: its ends, those just within them, and others.
func inside() []float64 {
	return withSigns(0, 0x1p-400, 0x1p-400+0x1p-452, 0x1p-399, 1e-100, 0.1, 1-0x1p-53, 1, 3, 1e100, 0x1p399, 0x1p400-0x1p347, 0x1p400)
}

// outside are finite floats out of range: those just beyond its ends, and the ends of each class.
func outside() []float64 {
	return withSigns(0x1p-400-0x1p-453, 0x1p-401, 0x1p-800, normal+least, normal, greatSub, 2*least, least, 0x1p400+0x1p348, 0x1p401, 0x1p1023, most)
}

// endless are words of no finite floats: both infinities, and NaNs with the least and the greatest bits.
func endless() []uint64 {
	l := []uint64{0x7FF << 52, 0x7FF<<52 + 1, 0x7FF8 << 48, 0x7FF8<<48 + 1, 0x7FF8<<48 - 1, math.MaxInt64, 0x7FFABCDE12345678}
	for _, w := range l {
		l = append(l, w|minusZero)
	}
	return l
}

func endlessFloats() []float64 {
	var l []float64
	for _, w := range endless() {
		l = append(l, math.Float64frombits(w))
	}
	return l
}

// anyFloats are n finite floats of any bits, a part of them below the normal ones.
func anyFloats(n int, seed uint64) []float64 {
	next := stream(seed)
	var l []float64
	for len(l) < n {
		w := next()
		if w&7 == 0 {
			w &^= 0x7FF << 52
		}
		if w>>52&0x7FF != 0x7FF {
			l = append(l, math.Float64frombits(w))
		}
	}
	return l
}

// inRange are n floats of the range, some of them zeros.
func inRange(n int, seed uint64) []float64 {
	next := stream(seed)
	l := make([]float64, n)
	for i := range l {
		w := next()
		exp := 1023 - 400 + next()%800
		if w&15 == 0 {
			w, exp = w&minusZero, 0
		}
		l[i] = math.Float64frombits(w&^(0x7FF<<52) | exp<<52)
	}
	return l
}

// timesOf is x times 2^p, rounded by the library; p is not so far that its numbers end.
func timesOf(x float64, p int) float64 {
	if x == 0 || x != x || math.IsInf(x, 0) {
		return x
	}
	f := big.NewFloat(x)
	r, _ := f.SetMantExp(f, p).Float64()
	return r
}

// isPower tells if p is the least one with all sizes below 2^p, or 0 of zeros.
func isPower(p int, l []float64) bool {
	greatest := new(big.Float)
	for _, f := range l {
		if size := big.NewFloat(math.Abs(f)); size.Cmp(greatest) > 0 {
			greatest = size
		}
	}
	if greatest.Sign() == 0 {
		return p == 0
	}
	two := new(big.Float).SetMantExp(big.NewFloat(1), p)
	half := new(big.Float).SetMantExp(big.NewFloat(1), p-1)
	return greatest.Cmp(two) < 0 && greatest.Cmp(half) >= 0
}

// sizesNot are sizes that may not be.
func sizesNot() [][2]int {
	var l [][2]int
	for _, n := range []int{-1, -2, -512, least32, math.MinInt, api.MaxSize + 1, 1 << 16, 1 << 32, most32, math.MaxInt} {
		l = append(l, [2]int{n, n}, [2]int{n, 1}, [2]int{1, n}, [2]int{0, n}, [2]int{n, 0}, [2]int{n, api.MaxSize})
	}
	return l
}

func code(t *testing.T, call string, a api.Matrix, got, want api.Code) {
	t.Helper()
	if got != want || want != api.Good && !none(a) {
		t.Errorf("%s: %v, code %d, not %d", call, short(a), got, want)
	}
}
