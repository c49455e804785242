package view_test

import (
	"slices"
	"testing"

	"plumbline/api"
	"plumbline/view"
)

// P7.6: T of T shows the same: the same floats, at the same places.
func TestTurnedTwice(t *testing.T) {
	for _, p := range newBoth(t, 3, 4, anyFloats(12, 13)).parts() {
		u := p.v.T().T()
		if !view.Same(u, p.v) || u.Shares(p.v) != (len(p.m.all()) > 0) {
			t.Fatal(p.m.floats())
		}
		for i := range p.m.rows {
			for j := range p.m.cols {
				expect(t, "Set", u.Set(i, j, float64(i-7*j)), api.OK)
				float(t, "At", p.v.At(i, j), float64(i-7*j))
			}
		}
	}
}

// P7.6: what is set in a part is set in the whole, and nothing else; by Set, and by Put.
func TestSetInPart(t *testing.T) {
	all := newBoth(t, 3, 4, anyFloats(12, 14))
	for n, p := range all.parts() {
		for i := range p.m.rows {
			for j := range p.m.cols {
				x := float64(n*16 + i*4 + j)
				expect(t, "Set", p.v.Set(i, j, x), api.OK)
				*p.m.cells[i][j] = x
				all.check(t, "the whole")
			}
		}
		for i := range p.v.Len() {
			expect(t, "Put", p.v.Put(i, -float64(i)), api.OK)
			*p.m.all()[i] = -float64(i)
			all.check(t, "the whole")
		}
	}
}

// P7.6: what is set in the whole is seen in each part that shows it.
func TestSetInWhole(t *testing.T) {
	all := newBoth(t, 3, 4, counted(12))
	parts := all.parts()
	for i := range 3 {
		for j := range 4 {
			expect(t, "Set", all.v.Set(i, j, nan), api.OK)
			*all.m.cells[i][j] = nan
			for _, p := range parts {
				p.check(t, "a part")
			}
			expect(t, "Set", all.v.Set(i, j, 2), api.OK)
			*all.m.cells[i][j] = 2
		}
	}
}

// some answers a number from 0 to n - 1; 0, where there is none.
func some(next func() uint64, n int) int {
	if n <= 0 {
		return 0
	}
	return int(next() >> 8 % uint64(n))
}

// any answers what one of the calls that cut makes of it.
func (b both) any(next func() uint64) both {
	i, j := some(next, b.m.rows+1), some(next, b.m.cols+1)
	rows, cols := some(next, b.m.rows-i+1), some(next, b.m.cols-j+1)
	switch next() >> 8 % 6 {
	case 0:
		return both{b.v.T(), b.m.turned()}
	case 1:
		return both{b.v.Diag(), b.m.diag()}
	case 2:
		if i < b.m.rows {
			return both{b.v.Row(i), b.m.part(i, 0, 1, b.m.cols)}
		}
	case 3:
		if j < b.m.cols {
			return both{b.v.Col(j), b.m.part(0, j, b.m.rows, 1)}
		}
	case 4:
		return both{b.v.Copy(), modelOf(b.m.rows, b.m.cols, b.m.floats())}
	}
	return both{b.v.Part(i, j, rows, cols), b.m.part(i, j, rows, cols)}
}

// write does one of the calls that write, and the same with the model.
func (b both) write(t *testing.T, next func() uint64, o both) {
	t.Helper()
	i, j, x := some(next, b.m.rows+1), some(next, b.m.cols+1), anyFloats(1, next())[0]
	within := i < b.m.rows && j < b.m.cols
	switch next() >> 8 % 4 {
	case 0, 1:
		if e := b.v.Set(i, j, x); within != (e == api.OK) {
			t.Fatal(e)
		}
		if within {
			*b.m.cells[i][j] = x
		}
	case 2:
		expect(t, "Fill", b.v.Fill(x), api.OK)
		for _, c := range b.m.all() {
			*c = x
		}
	case 3:
		if b.m.rows == o.m.rows && b.m.cols == o.m.cols {
			take(t, "Take", b, b, o)
		} else {
			expect(t, "Take", b.v.Take(o.v), api.ErrShape)
		}
	}
}

// P7.1 to P7.6: any calls in turn, on views of a few stores, and parts of parts: each of them shows what it has to.
func TestAnyCalls(t *testing.T) {
	for seed := range uint64(60) {
		next := stream(seed)
		rows, cols := 1+some(next, 6), 1+some(next, 6)
		l := []both{newBoth(t, rows, cols, anyFloats(rows*cols, seed)), newBoth(t, cols, rows, counted(rows*cols))}
		for range 150 {
			b, o := l[some(next, len(l))], l[some(next, len(l))]
			if next()>>8%2 == 0 {
				if b = b.any(next); len(l) > 20 {
					l[2+some(next, 19)] = b
				} else {
					l = append(l, b)
				}
			} else {
				b.write(t, next, o)
			}
			if b.v.Shares(o.v) != meet(b.m, o.m) || view.Same(b.v, o.v) != (b.m.rows == o.m.rows && b.m.cols == o.m.cols && slices.EqualFunc(b.m.floats(), o.m.floats(), alike)) {
				t.Fatal(seed, b.m.floats(), o.m.floats())
			}
			for _, b := range l {
				b.check(t, "any")
			}
		}
	}
}
