package view_test

import (
	"slices"
	"testing"

	"plumbline/api"
)

// P7.4: row by row, of whatever part; as it is when it is asked.
func TestMatrix(t *testing.T) {
	for _, p := range newBoth(t, 3, 4, anyFloats(12, 8)).parts() {
		m := p.v.Matrix()
		if m.Rows != p.m.rows || m.Cols != p.m.cols || !slices.EqualFunc(m.Data, p.m.floats(), alike) {
			t.Fatal(m, p.m.floats())
		}
	}
	v := countedView(t, 2, 2)
	row := v.Row(1)
	v.Set(1, 0, 9)
	if m := row.Matrix(); !slices.Equal(m.Data, []float64{9, 4}) {
		t.Error(m)
	}
}

// P7.4: what Matrix answers may be a matrix, also of no rows, or columns.
func TestMatrixMayBe(t *testing.T) {
	for _, s := range someSizes() {
		m := countedView(t, s[0], s[1]).Matrix()
		shows(t, "Of, Matrix", made(t, m.Rows, m.Cols, m.Data...), s[0], s[1], counted(s[0]*s[1])...)
	}
}

// P7.4: the same floats, of which all of a new store is made: nothing of the old one is seen.
func TestCopy(t *testing.T) {
	for _, p := range newBoth(t, 3, 4, anyFloats(12, 9)).parts() {
		c := p.v.Copy()
		shows(t, "Copy", c, p.m.rows, p.m.cols, p.m.floats()...)
		was := p.m.floats()
		expect(t, "Fill", c.Fill(5), api.OK)
		p.check(t, "the copied one")
		expect(t, "Take", c.Take(p.v), api.OK)
		shows(t, "Copy", c, p.m.rows, p.m.cols, was...)
		if c.Shares(p.v) || p.v.Shares(c) {
			t.Fatal("shares")
		}
		for i := range p.m.rows {
			for j := range p.m.cols {
				shows(t, "Row", c.Row(i), 1, p.m.cols, was[i*p.m.cols:(i+1)*p.m.cols]...)
				float(t, "T, At", c.T().At(j, i), was[i*p.m.cols+j])
			}
		}
	}
}

// P7.4: at all its places, and at no other.
func TestFill(t *testing.T) {
	for _, x := range append(nans(), 3, minus, 0, -inf) {
		b := newBoth(t, 3, 4, counted(12))
		for _, p := range b.parts() {
			was := b.m.floats()
			expect(t, "Fill", p.v.Fill(x), api.OK)
			for _, c := range p.m.all() {
				*c = x
			}
			p.check(t, "Fill")
			b.check(t, "all of it")
			for i, f := range was {
				*b.m.all()[i] = f
				b.v.Set(i/4, i%4, f)
			}
		}
	}
}

// take does it, and likewise of the models; all is what the views are parts of.
func take(t *testing.T, call string, all, v, o both) {
	t.Helper()
	was := o.m.floats()
	expect(t, call, v.v.Take(o.v), api.OK)
	for i, c := range v.m.all() {
		*c = was[i]
	}
	shows(t, call, v.v, o.m.rows, o.m.cols, was...)
	all.check(t, call)
}

// P7.4: of another store.
func TestTake(t *testing.T) {
	for _, p := range newBoth(t, 3, 4, anyFloats(12, 10)).parts() {
		all := newBoth(t, 5, 5, counted(25))
		v := both{all.v.Part(1, 0, 4, 4), all.m.part(1, 0, 4, 4)}
		take(t, "Take", all, both{v.v.Part(0, 0, p.m.rows, p.m.cols), v.m.part(0, 0, p.m.rows, p.m.cols)}, p)
		take(t, "Take", all, both{v.v.T().Part(0, 0, p.m.rows, p.m.cols), v.m.turned().part(0, 0, p.m.rows, p.m.cols)}, p)
		p.check(t, "what was taken")
	}
}

// P7.4: each of two parts of one store, whether they overlap or not.
func TestTakeOverlapping(t *testing.T) {
	all := newBoth(t, 3, 3, counted(9))
	parts := all.parts()
	for _, v := range parts {
		for _, o := range parts {
			if v.m.rows == o.m.rows && v.m.cols == o.m.cols {
				take(t, "Take", all, v, o)
			}
		}
		for i, f := range counted(9) {
			*all.m.all()[i] = f
			all.v.Set(i/3, i%3, f)
		}
	}
}

// P7.4: what shows the same places; what is turned; a row, moved by one in both ways.
func TestTakeOfItself(t *testing.T) {
	v := countedView(t, 3, 3)
	expect(t, "itself", v.Take(v), api.OK)
	shows(t, "itself", v, 3, 3, counted(9)...)
	expect(t, "turned", v.Take(v.T()), api.OK)
	shows(t, "turned", v, 3, 3, 1, 4, 7, 2, 5, 8, 3, 6, 9)
	expect(t, "turned", v.T().Take(v), api.OK)
	shows(t, "turned back", v, 3, 3, counted(9)...)
	expect(t, "moved", v.Row(0).Part(0, 1, 1, 2).Take(v.Row(0).Part(0, 0, 1, 2)), api.OK)
	shows(t, "moved", v, 3, 3, 1, 1, 2, 4, 5, 6, 7, 8, 9)
	expect(t, "moved", v.Col(1).Part(0, 0, 2, 1).Take(v.Col(1).Part(1, 0, 2, 1)), api.OK)
	shows(t, "moved", v, 3, 3, 1, 5, 2, 4, 8, 6, 7, 8, 9)
	expect(t, "block", v.Part(1, 1, 2, 2).Take(v.Part(0, 0, 2, 2)), api.OK)
	shows(t, "block", v, 3, 3, 1, 5, 2, 4, 1, 5, 7, 4, 8)
	expect(t, "diagonal", v.Diag().Take(v.Row(2).T()), api.OK)
	shows(t, "diagonal", v, 3, 3, 7, 5, 2, 4, 4, 5, 7, 4, 8)
}

// P7.4: rows or columns that are not as many; nothing is changed.
func TestTakeRefused(t *testing.T) {
	for _, s := range someSizes() {
		v := countedView(t, s[0], s[1])
		for _, r := range someSizes() {
			o := made(t, r[0], r[1], make([]float64, r[0]*r[1])...)
			if r != s {
				expect(t, "Take", v.Take(o), api.ErrShape)
			}
		}
		shows(t, "Take", v, s[0], s[1], counted(s[0]*s[1])...)
		if s[0] != s[1] {
			expect(t, "Take turned", v.Take(v.T()), api.ErrShape)
		}
		if s[0] > 1 {
			expect(t, "Take a row", v.Take(v.Row(0)), api.ErrShape)
			expect(t, "of a row", v.Row(0).Take(v), api.ErrShape)
		}
		shows(t, "Take", v, s[0], s[1], counted(s[0]*s[1])...)
	}
}

// P7.4: of no places, nothing is changed.
func TestFillAndTakeOfNoPlaces(t *testing.T) {
	v := countedView(t, 3, 3)
	for _, s := range [][2]int{{0, 0}, {0, 2}, {2, 0}, {3, 0}, {0, 3}} {
		p := v.Part(0, 0, s[0], s[1])
		expect(t, "Fill", p.Fill(7), api.OK)
		expect(t, "Take", p.Take(v.Part(3-s[0], 3-s[1], s[0], s[1])), api.OK)
		expect(t, "Take", p.Take(made(t, s[0], s[1])), api.OK)
		shows(t, "all", v, 3, 3, counted(9)...)
	}
}
