package reflect_test

import (
	"math"
	"slices"
	"testing"

	"plumbline/api"
	"plumbline/reflect"
)

const (
	least = math.SmallestNonzeroFloat64
	most  = math.MaxFloat64
	step  = 0x1p-52 // from 1 to the next one
)

var (
	inf   = math.Inf(1)
	nan   = math.NaN()
	minus = math.Copysign(0, -1) // -0
)

// alike tells if both are the same float, bit by bit, NaNs being one.
func alike(x, y float64) bool {
	return math.Float64bits(x) == math.Float64bits(y) || x != x && y != y
}

// same tells if both have the same floats, and as many.
func same(x, y []float64) bool { return slices.EqualFunc(x, y, alike) }

// stream answers words by a rule that is not to be seen in them.
func stream(seed uint64) func() uint64 {
	return func() uint64 {
		seed = seed*6364136223846793005 + 1442695040888963407
		return (seed ^ seed>>29) * 0x9E3779B97F4A7C15
	}
}

// below answers a number from 0 to n - 1.
func below(next func() uint64, n int) int { return int(next() >> 8 % uint64(n)) }

func withSigns(l ...float64) []float64 {
	for _, f := range l {
		l = append(l, math.Copysign(f, -1))
	}
	return l
}

// edges have squares below the least float, and above the greatest one.
func edges() []float64 {
	return withSigns(0, least, 3*least, 0x1p-1022, 0x1p-538, 0x1p-511, 0.1, 1, 1+step, 3, 0x1p511, 0x1p512, 0x1p1023, most, inf, nan)
}

// near answers floats whose sums hang on their order, and whose products need be rounded.
func near(next func() uint64) float64 {
	w := next()
	return math.Copysign(math.Ldexp(1+float64(w>>12)*step, int(w%7)-3), float64(int64(next())))
}

// sources answer a float each time: such as hang on their order, of the edges, of any bits, whole numbers, both kinds.
func sources(seed uint64) []func() float64 {
	next := stream(seed)
	e := edges()
	return []func() float64{
		func() float64 { return near(next) },
		func() float64 { return e[below(next, len(e))] },
		func() float64 { return math.Float64frombits(next()) },
		func() float64 { return float64(below(next, 7)) - 3 },
		func() float64 {
			if below(next, 6) == 0 {
				return e[below(next, len(e))]
			}
			return near(next)
		},
	}
}

func many(n int, from func() float64) []float64 {
	l := make([]float64, n)
	for i := range l {
		l[i] = from()
	}
	return l
}

func matrix(rows, cols int, l ...float64) api.Matrix {
	return api.Matrix{Rows: rows, Cols: cols, Data: l}
}

// anyMatrix has new floats.
func anyMatrix(rows, cols int, from func() float64) api.Matrix {
	return matrix(rows, cols, many(rows*cols, from)...)
}

func reflection(tau float64, v ...float64) api.Reflection {
	return api.Reflection{V: v, Tau: tau}
}

// anyReflections are k of n entries each.
func anyReflections(k, n int, from func() float64) []api.Reflection {
	var l []api.Reflection
	for range k {
		l = append(l, reflection(from(), many(n, from)...))
	}
	return l
}

func entry(a api.Matrix, i, k int) float64 { return a.Data[i*a.Cols+k] }

func clone(a api.Matrix) api.Matrix { return matrix(a.Rows, a.Cols, slices.Clone(a.Data)...) }

// cloneAll are the same reflections in memory of their own.
func cloneAll(l []api.Reflection) []api.Reflection {
	var other []api.Reflection
	for _, h := range l {
		other = append(other, reflection(h.Tau, slices.Clone(h.V)...))
	}
	return other
}

// asked is a call's answer, and its error.
type asked struct {
	a api.Matrix
	e api.Errno
}

func left(a api.Matrix, at, from int, h api.Reflection) asked {
	m, e := reflect.Left(a, at, from, h)
	return asked{m, e}
}

func right(a api.Matrix, at, from int, h api.Reflection) asked {
	m, e := reflect.Right(a, at, from, h)
	return asked{m, e}
}

func factor(l ...api.Reflection) asked {
	m, e := reflect.Factor(l...)
	return asked{m, e}
}

func block(a, t api.Matrix, l ...api.Reflection) asked {
	m, e := reflect.Block(a, t, l...)
	return asked{m, e}
}

// is expects just that matrix.
func (got asked) is(t *testing.T, call string, want api.Matrix) {
	t.Helper()
	if got.e != api.OK || got.a.Rows != want.Rows || got.a.Cols != want.Cols || !same(got.a.Data, want.Data) {
		t.Fatalf("%s: %v %x, not %x", call, got.e, got.a, want)
	}
}

// fails expects an error, and nothing else; or, if it is OK, a matrix.
func (got asked) fails(t *testing.T, call string, want api.Errno) {
	t.Helper()
	if got.e != want || want != api.OK && (got.a.Rows != 0 || got.a.Cols != 0 || len(got.a.Data) != 0) {
		t.Fatalf("%s: %v %x, not %v", call, got.e, got.a, want)
	}
}

// made expects just that reflection, and that beta.
func made(t *testing.T, x, v []float64, tau, beta float64) {
	t.Helper()
	h, b, e := reflect.Make(x...)
	if e != api.OK || !same(h.V, v) || !alike(h.Tau, tau) || !alike(b, beta) {
		t.Fatalf("Make %x: %x, %x, %x %v, not %x, %x, %x", x, h.V, h.Tau, b, e, v, tau, beta)
	}
}

func few(l ...float64) []float64 { return l }
