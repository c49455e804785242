package view_test

import (
	"math"
	"slices"
	"testing"

	"plumbline/api"
	"plumbline/view"
)

const (
	least = math.SmallestNonzeroFloat64
	most  = math.MaxFloat64
)

var (
	inf   = math.Inf(1)
	nan   = math.NaN()
	minus = math.Copysign(0, -1) // -0
)

// nans are NaNs of other bits than each other.
func nans() []float64 {
	var l []float64
	for _, w := range []uint64{0x7FF0000000000001, 0x7FF8000000000000, 0x7FF8000000000001, 0x7FFFFFFFFFFFFFFF, 0xFFF0000000000001, 0xFFF8000000000000, 0xFFFFFFFFFFFFFFFF} {
		l = append(l, math.Float64frombits(w))
	}
	return l
}

// alike tells if both are the same float, bit by bit, NaNs being one.
func alike(x, y float64) bool {
	return math.Float64bits(x) == math.Float64bits(y) || x != x && y != y
}

// stream answers words by a rule that is not to be seen in them.
func stream(seed uint64) func() uint64 {
	return func() uint64 {
		seed = seed*6364136223846793005 + 1442695040888963407
		return (seed ^ seed>>29) * 0x9E3779B97F4A7C15
	}
}

// anyFloats are n floats of any bits, some of them zeros, infinities and NaNs.
func anyFloats(n int, seed uint64) []float64 {
	next := stream(seed)
	l := make([]float64, n)
	for i := range l {
		w := next()
		switch w >> 4 % 8 {
		case 0:
			l[i] = math.Copysign(0, float64(int64(w)))
		case 1:
			l[i] = math.Copysign(inf, float64(int64(w)))
		case 2:
			l[i] = nans()[next()%7]
		default:
			l[i] = math.Float64frombits(next())
		}
	}
	return l
}

// counted are n floats from 1 on.
func counted(n int) []float64 {
	l := make([]float64, n)
	for i := range l {
		l[i] = float64(i + 1)
	}
	return l
}

// matrix answers one with new entries.
func matrix(rows, cols int, l ...float64) api.Matrix {
	return api.Matrix{Rows: rows, Cols: cols, Data: slices.Clone(l)}
}

// made is a view of all of a new store.
func made(t *testing.T, rows, cols int, l ...float64) view.View {
	t.Helper()
	v, e := view.Of(matrix(rows, cols, l...))
	if e != api.OK {
		t.Fatalf("Of %d by %d: %v", rows, cols, e)
	}
	return v
}

// countedView shows 1, 2, ..
func countedView(t *testing.T, rows, cols int) view.View {
	t.Helper()
	return made(t, rows, cols, counted(rows*cols)...)
}

// someSizes are of views: without rows, columns, or both, square ones, and others.
func someSizes() [][2]int {
	var l [][2]int
	for rows := range 5 {
		for cols := range 5 {
			l = append(l, [2]int{rows, cols})
		}
	}
	return append(l, [2]int{1, 9}, [2]int{9, 1}, [2]int{7, 3}, [2]int{0, api.MaxSize}, [2]int{api.MaxSize, 0}, [2]int{api.MaxSize, 1}, [2]int{2, api.MaxSize})
}

// placesNot are those that are none, where there are n.
func placesNot(n int) []int {
	return []int{-1, -2, -n - 1, n, n + 1, 2*n + 1, 1 << 31, 1 << 32, 1<<62 - 1, 1 << 62, math.MaxInt - 1, math.MaxInt, math.MinInt, math.MinInt + 1, -1 << 62, -1 << 32}
}

// sizesNot are sizes that may not be.
func sizesNot() [][2]int {
	var l [][2]int
	for _, n := range []int{-1, -2, -api.MaxSize, math.MinInt32, math.MinInt, math.MinInt + 1, api.MaxSize + 1, 1 << 16, 1 << 32, 1 << 62, math.MaxInt32, math.MaxInt} {
		for _, m := range []int{-1, 0, 1, 2, api.MaxSize, api.MaxSize + 1, n} {
			l = append(l, [2]int{n, m}, [2]int{m, n})
		}
	}
	return append(l, [2]int{-2, -3}, [2]int{1 << 62, 4}, [2]int{math.MinInt, 2})
}

// shows expects just these floats, row by row.
func shows(t *testing.T, call string, v view.View, rows, cols int, l ...float64) {
	t.Helper()
	m := v.Matrix()
	if v.Rows() != rows || v.Cols() != cols || m.Rows != rows || m.Cols != cols || !slices.EqualFunc(m.Data, l, alike) {
		t.Fatalf("%s: %d by %d, %v; not %d by %d, %v", call, v.Rows(), v.Cols(), short(m.Data), rows, cols, short(l))
	}
	if v.Set(-1, -1, 0) != api.ErrArg {
		t.Fatalf("%s is none", call)
	}
}

// isNone expects a view that is none.
func isNone(t *testing.T, call string, v view.View) {
	t.Helper()
	if v != (view.View{}) || v.Set(0, 0, 1) != api.ErrNil || v.Rows() != 0 || v.Cols() != 0 {
		t.Fatalf("%s: %d by %d, not none", call, v.Rows(), v.Cols())
	}
}

// short is what of a list can be read.
func short(l []float64) []float64 { return l[:min(len(l), 12)] }

func expect(t *testing.T, call string, got, want api.Errno) {
	t.Helper()
	if got != want {
		t.Fatalf("%s: %v, not %v", call, got, want)
	}
}

func float(t *testing.T, call string, got, want float64) {
	t.Helper()
	if !alike(got, want) {
		t.Fatalf("%s: %x, not %x", call, got, want)
	}
}

// model shows floats one by one, wherever they are kept.
type model struct {
	rows, cols int
	cells      [][]*float64
}

// modelOf keeps these floats, row by row.
func modelOf(rows, cols int, l []float64) model {
	l = slices.Clone(l)
	return modelBy(rows, cols, func(i, j int) *float64 { return &l[i*cols+j] })
}

func modelBy(rows, cols int, cell func(i, j int) *float64) model {
	m := model{rows: rows, cols: cols}
	for i := range rows {
		m.cells = append(m.cells, nil)
		for j := range cols {
			m.cells[i] = append(m.cells[i], cell(i, j))
		}
	}
	return m
}

func (m model) turned() model {
	return modelBy(m.cols, m.rows, func(i, j int) *float64 { return m.cells[j][i] })
}

func (m model) part(at, from, rows, cols int) model {
	return modelBy(rows, cols, func(i, j int) *float64 { return m.cells[at+i][from+j] })
}

func (m model) diag() model {
	return modelBy(min(m.rows, m.cols), 1, func(i, j int) *float64 { return m.cells[i][i] })
}

// all is the cells row by row.
func (m model) all() []*float64 { return slices.Concat(m.cells...) }

func (m model) floats() []float64 {
	var l []float64
	for _, c := range m.all() {
		l = append(l, *c)
	}
	return l
}

// both is a view, and what it has to show.
type both struct {
	v view.View
	m model
}

func newBoth(t *testing.T, rows, cols int, l []float64) both {
	t.Helper()
	return both{made(t, rows, cols, l...), modelOf(rows, cols, l)}
}

func (b both) check(t *testing.T, call string) {
	t.Helper()
	shows(t, call, b.v, b.m.rows, b.m.cols, b.m.floats()...)
}

// parts are all parts of a small one, and those parts' turned ones and diagonals.
func (b both) parts() []both {
	var l []both
	for i := range b.m.rows + 1 {
		for j := range b.m.cols + 1 {
			for rows := range b.m.rows - i + 1 {
				for cols := range b.m.cols - j + 1 {
					l = append(l, both{b.v.Part(i, j, rows, cols), b.m.part(i, j, rows, cols)})
				}
			}
		}
	}
	for _, p := range l {
		l = append(l, both{p.v.T(), p.m.turned()}, both{p.v.Diag(), p.m.diag()}, both{p.v.T().Diag().T(), p.m.turned().diag().turned()})
	}
	return l
}
