package kernels_test

import (
	"math"
	"slices"
	"testing"

	"plumbline/api"
	"plumbline/view"
)

const (
	least = math.SmallestNonzeroFloat64
	most  = math.MaxFloat64
)

var (
	inf   = math.Inf(1)
	nan   = math.NaN()
	minus = math.Copysign(0, -1) // -0
)

// alike tells if both are the same float, bit by bit, NaNs being one.
func alike(x, y float64) bool {
	return math.Float64bits(x) == math.Float64bits(y) || x != x && y != y
}

// stream answers words by a rule that is not to be seen in them.
func stream(seed uint64) func() uint64 {
	return func() uint64 {
		seed = seed*6364136223846793005 + 1442695040888963407
		return (seed ^ seed>>29) * 0x9E3779B97F4A7C15
	}
}

func withSigns(l ...float64) []float64 {
	for _, f := range l {
		l = append(l, math.Copysign(f, -1))
	}
	return l
}

// edges have products below the least float, and above the greatest one.
func edges() []float64 {
	return withSigns(0, least, 3*least, 0x1p-1022, 0x1p-538, 0x1p-511, 0.1, 1, 1+0x1p-52, 3, 0x1p511, 0x1p512, 0x1p1023, most, inf, nan)
}

// numbers are what a and b are held against.
func numbers() []float64 { return append(edges(), -1.5, 0.3, 7, -0x1.921fb54442d18p+1) }

// near answers floats whose sums hang on their order, and whose products need be rounded.
func near(next func() uint64) float64 {
	w := next()
	return math.Copysign(math.Ldexp(1+float64(w>>12)*0x1p-52, int(w%7)-3), float64(int64(next())))
}

// sources answer a float each time: of any bits, of the edges, such as hang on their order, whole numbers.
func sources(seed uint64) []func() float64 {
	next := stream(seed)
	e := edges()
	return []func() float64{
		func() float64 { return near(next) },
		func() float64 { return e[next()>>8%uint64(len(e))] },
		func() float64 { return math.Float64frombits(next()) },
		func() float64 { return float64(int64(next()>>8%7)) - 3 },
		func() float64 {
			if next()>>8%3 == 0 {
				return e[next()>>8%uint64(len(e))]
			}
			return near(next)
		},
	}
}

func many(n int, from func() float64) []float64 {
	l := make([]float64, n)
	for i := range l {
		l[i] = from()
	}
	return l
}

// made is a view of all of a new store.
func made(t *testing.T, rows, cols int, l ...float64) view.View {
	t.Helper()
	v, e := view.Of(api.Matrix{Rows: rows, Cols: cols, Data: slices.Clone(l)})
	if e != api.OK {
		t.Fatalf("Of %d by %d: %v", rows, cols, e)
	}
	return v
}

// row and column are vectors.
func row(t *testing.T, l ...float64) view.View {
	t.Helper()
	return made(t, 1, len(l), l...)
}

func column(t *testing.T, l ...float64) view.View {
	t.Helper()
	return made(t, len(l), 1, l...)
}

// shows expects just these floats, row by row.
func shows(t *testing.T, call string, v view.View, l ...float64) {
	t.Helper()
	if got := v.Matrix().Data; !slices.EqualFunc(got, l, alike) {
		t.Fatalf("%s: %x, not %x", call, got, l)
	}
}

func expect(t *testing.T, call string, got, want api.Errno) {
	t.Helper()
	if got != want {
		t.Fatalf("%s: %v, not %v", call, got, want)
	}
}

// vector tells if a view of that shape is one.
func vector(s [2]int) bool { return s[0] == 1 || s[1] == 1 || s == [2]int{} }

// places are how many a vector of that shape has.
func places(s [2]int) int { return s[0] * s[1] }

func shape(m api.Matrix) [2]int { return [2]int{m.Rows, m.Cols} }

// shapes have from 0 to n rows and columns.
func shapes(n int) [][2]int {
	var l [][2]int
	for rows := range n + 1 {
		for cols := range n + 1 {
			l = append(l, [2]int{rows, cols})
		}
	}
	return l
}

// eachList goes over all lists of n of the shapes.
func eachList(n int, of [][2]int, do func(l [][2]int)) {
	if n == 0 {
		do(nil)
		return
	}
	eachList(n-1, of, func(l [][2]int) {
		for _, s := range of {
			do(append(slices.Clone(l), s))
		}
	})
}
