package bidiag_test

import (
	"fmt"
	"math"
	"slices"
	"testing"

	"plumbline/api"
	"plumbline/bidiag"
)

const (
	least = math.SmallestNonzeroFloat64
	most  = math.MaxFloat64
	step  = 0x1p-52 // from 1 to the next one
)

var (
	inf   = math.Inf(1)
	nan   = math.NaN()
	minus = math.Copysign(0, -1) // -0
)

// alike tells if both are the same float, bit by bit, NaNs being one.
func alike(x, y float64) bool {
	return math.Float64bits(x) == math.Float64bits(y) || x != x && y != y
}

// same tells if both have the same floats, and as many.
func same(x, y []float64) bool { return slices.EqualFunc(x, y, alike) }

// sameReflections tells if both have the same ones, and as many.
func sameReflections(x, y []api.Reflection) bool {
	return slices.EqualFunc(x, y, func(g, h api.Reflection) bool { return alike(g.Tau, h.Tau) && same(g.V, h.V) })
}

// stream answers words by a rule that is not to be seen in them.
func stream(seed uint64) func() uint64 {
	return func() uint64 {
		seed = seed*6364136223846793005 + 1442695040888963407
		return (seed ^ seed>>29) * 0x9E3779B97F4A7C15
	}
}

// under answers a number from 0 to n - 1.
func under(next func() uint64, n int) int { return int(next() >> 8 % uint64(n)) }

func few(l ...float64) []float64 { return l }

func withSigns(l ...float64) []float64 {
	for _, f := range l {
		l = append(l, math.Copysign(f, -1))
	}
	return l
}

// edges are finite, with squares below the least float, and above the greatest one.
func edges() []float64 {
	return withSigns(0, least, 3*least, 0x1p-1022, 0x1p-538, 0x1p-511, 0.1, 1, 1+step, 3, 0x1p511, 0x1p512, 0x1p1023, most)
}

// near answers floats whose sums hang on their order, and whose products need be rounded.
func near(next func() uint64) float64 {
	w := next()
	return math.Copysign(math.Ldexp(1+float64(w>>12)*step, int(w%7)-3), float64(int64(next())))
}

// anyFinite answers floats of any bits but those of none that is finite.
func anyFinite(next func() uint64) float64 {
	for {
		if f := math.Float64frombits(next()); f-f == 0 {
			return f
		}
	}
}

// text may be long: of a great matrix the first part tells enough.
func text(x any) string { return fmt.Sprintf("%x", x) }

// sources answer a finite float each time: such as hang on their order, of the edges, of any bits, whole numbers, noughts mostly, and near ones among edges.
func sources(seed uint64) []func() float64 {
	next := stream(seed)
	e := edges()
	return []func() float64{
		func() float64 { return near(next) },
		func() float64 { return e[under(next, len(e))] },
		func() float64 { return anyFinite(next) },
		func() float64 { return float64(under(next, 7)) - 3 },
		func() float64 {
			if under(next, 3) == 0 {
				return near(next)
			}
			return few(0, minus)[under(next, 2)]
		},
		func() float64 {
			if under(next, 6) == 0 {
				return e[under(next, len(e))]
			}
			return near(next)
		},
	}
}

// ordinary are the sources but those of the edges and of any bits.
func ordinary(seed uint64) []func() float64 {
	l := sources(seed)
	return []func() float64{l[0], l[3], l[4]}
}

// unfinite are NaNs of some bits, and both infinities.
func unfinite() []float64 {
	return few(nan, inf, -inf, math.Float64frombits(0x7FF0000000000001), math.Float64frombits(0xFFFFFFFFFFFFFFFF))
}

// wild are the sources, and such as also answer what is not finite.
func wild(seed uint64) []func() float64 {
	next := stream(seed)
	e := append(edges(), unfinite()...)
	return append(sources(seed),
		func() float64 { return e[under(next, len(e))] },
		func() float64 { return math.Float64frombits(next() | uint64(under(next, 2))*0x7FF<<52) })
}

func many(n int, from func() float64) []float64 {
	l := make([]float64, n)
	for i := range l {
		l[i] = from()
	}
	return l
}

func matrix(rows, cols int, l ...float64) api.Matrix {
	return api.Matrix{Rows: rows, Cols: cols, Data: l}
}

// noughts is a matrix of them.
func noughts(rows, cols int) api.Matrix { return matrix(rows, cols, make([]float64, rows*cols)...) }

func anyMatrix(rows, cols int, from func() float64) api.Matrix {
	return matrix(rows, cols, many(rows*cols, from)...)
}

// unit has 1 on its diagonal.
func unit(rows, cols int) api.Matrix {
	a := noughts(rows, cols)
	for i := range min(rows, cols) {
		a.Data[i*cols+i] = 1
	}
	return a
}

func entry(a api.Matrix, i, k int) float64 { return a.Data[i*a.Cols+k] }

func clone(a api.Matrix) api.Matrix { return matrix(a.Rows, a.Cols, slices.Clone(a.Data)...) }

func turned(a api.Matrix) api.Matrix {
	b := noughts(a.Cols, a.Rows)
	for i := range a.Rows {
		for k := range a.Cols {
			b.Data[k*a.Rows+i] = entry(a, i, k)
		}
	}
	return b
}

func bi(d []float64, e ...float64) api.Bi { return api.Bi{D: d, E: e} }

// anyBi has n rows.
func anyBi(n int, from func() float64) api.Bi {
	return bi(many(n, from), many(max(n-1, 0), from)...)
}

// bidiagonal has D on its diagonal, E above it, and rows of 0 below.
func bidiagonal(rows int, b api.Bi) api.Matrix {
	n := len(b.D)
	a := noughts(rows, n)
	for i, x := range b.D {
		a.Data[i*n+i] = x
	}
	for i, x := range b.E {
		a.Data[i*n+i+1] = x
	}
	return a
}

func reflection(tau float64, v ...float64) api.Reflection {
	return api.Reflection{V: v, Tau: tau}
}

// anyReflections are n, the first one of so many entries, each of the next ones of one fewer.
func anyReflections(n, entries int, from func() float64) []api.Reflection {
	var l []api.Reflection
	for k := range n {
		l = append(l, reflection(from(), many(entries-k, from)...))
	}
	return l
}

// none are likewise, but each of them leaves all as it is.
func none(n, entries int) []api.Reflection {
	l := anyReflections(n, entries, func() float64 { return 0 })
	for k := range l {
		l[k].V[0] = 1
	}
	return l
}

// cloneAll are the same reflections in memory of their own.
func cloneAll(l []api.Reflection) []api.Reflection {
	var other []api.Reflection
	for _, h := range l {
		other = append(other, reflection(h.Tau, slices.Clone(h.V)...))
	}
	return other
}

// reduced is what Reduce answers.
type reduced struct {
	b    api.Bi
	h, g []api.Reflection
	e    api.Errno
}

func reduce(a api.Matrix) reduced {
	b, h, g, e := bidiag.Reduce(a)
	return reduced{b, h, g, e}
}

// alike tells if both are the same, bit by bit.
func (got reduced) alike(want reduced) bool {
	return got.e == want.e && same(got.b.D, want.b.D) && same(got.b.E, want.b.E) && sameReflections(got.h, want.h) && sameReflections(got.g, want.g)
}

func (got reduced) clone() reduced {
	return reduced{bi(slices.Clone(got.b.D), slices.Clone(got.b.E)...), cloneAll(got.h), cloneAll(got.g), got.e}
}

// is expects just that of a.
func (got reduced) is(t *testing.T, a api.Matrix, want reduced) {
	t.Helper()
	if !got.alike(want) {
		t.Fatalf("Reduce %.2000s:\n%.2000s\nnot\n%.2000s", text(a), text(got), text(want))
	}
}

// fails expects an error, and nothing else; or, if it is OK, no error.
func (got reduced) fails(t *testing.T, want api.Errno) {
	t.Helper()
	if got.e != want || want != api.OK && !got.alike(reduced{e: want}) {
		t.Fatalf("Reduce: %.2000s, not %v", text(got), want)
	}
}

// asked is a call's matrix, and its error.
type asked struct {
	a api.Matrix
	e api.Errno
}

func q(m, n int, l ...api.Reflection) asked {
	a, e := bidiag.Q(m, n, l...)
	return asked{a, e}
}

func p(n int, l ...api.Reflection) asked {
	a, e := bidiag.P(n, l...)
	return asked{a, e}
}

func full(b api.Bi) asked {
	a, e := bidiag.Full(b)
	return asked{a, e}
}

func product(left api.Matrix, b api.Bi, right api.Matrix) asked {
	a, e := bidiag.Product(left, b, right)
	return asked{a, e}
}

// is expects just that matrix.
func (got asked) is(t *testing.T, call string, want api.Matrix) {
	t.Helper()
	if got.e != api.OK || got.a.Rows != want.Rows || got.a.Cols != want.Cols || !same(got.a.Data, want.Data) {
		t.Fatalf("%s: %.2000s, not %.2000s", call, text(got), text(want))
	}
}

// fails expects an error, and nothing else; or, if it is OK, no error.
func (got asked) fails(t *testing.T, call string, want api.Errno) {
	t.Helper()
	if got.e != want || want != api.OK && (got.a.Rows != 0 || got.a.Cols != 0 || len(got.a.Data) != 0) {
		t.Fatalf("%s: %.2000s, not %v", call, text(got), want)
	}
}
