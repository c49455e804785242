package view_test

import (
	"slices"
	"testing"

	"plumbline/api"
	"plumbline/view"
)

// guarded is a copy of the list with more behind its end, in its memory, which nobody may touch.
func guarded(l []float64) []float64 {
	return append(slices.Clone(l), 1, 2, 3, 4, 5)[:len(l)]
}

func untouched(l, was []float64) bool {
	return slices.EqualFunc(l, was, alike) && slices.Equal(l[len(l):len(l)+5], []float64{1, 2, 3, 4, 5})
}

// What is handed to Of stays, whatever is done with the view; and the view stays, whatever is done with that.
func TestOfKeepsNothing(t *testing.T) {
	for _, s := range someSizes() {
		l := anyFloats(s[0]*s[1], 15)
		handed := guarded(l)
		v, e := view.Of(api.Matrix{Rows: s[0], Cols: s[1], Data: handed})
		o, f := view.Of(api.Matrix{Rows: s[0], Cols: s[1], Data: handed})
		expect(t, "Of", e, api.OK)
		expect(t, "Of", f, api.OK)
		v.Fill(3)
		v.T().Set(0, 0, 4)
		v.Diag().Put(0, 5)
		if !untouched(handed, l) {
			t.Fatal("what was handed in was written to")
		}
		shows(t, "another one", o, s[0], s[1], l...)
		for i := range handed {
			handed[i] = 9
		}
		shows(t, "another one", o, s[0], s[1], l...)
	}
}

// A refused Of changes nothing, either.
func TestRefusedOfStays(t *testing.T) {
	for _, s := range [][2]int{{2, 2}, {-1, 3}, {513, 0}, {1, 2}} {
		handed := guarded(counted(3))
		view.Of(api.Matrix{Rows: s[0], Cols: s[1], Data: handed})
		if !untouched(handed, counted(3)) {
			t.Error(s)
		}
	}
}

// What Matrix answers is the caller's: the view stays, and so does another answer.
func TestMatrixIsNew(t *testing.T) {
	for _, p := range newBoth(t, 3, 4, anyFloats(12, 16)).parts() {
		was := p.m.floats()
		m, again := p.v.Matrix(), p.v.Matrix()
		for i := range m.Data {
			m.Data[i] = 77
		}
		_ = append(m.Data, 78)
		p.check(t, "Matrix was written to")
		if !slices.EqualFunc(again.Data, was, alike) {
			t.Fatal("another answer")
		}
		p.v.Fill(5)
		if !slices.EqualFunc(again.Data, was, alike) {
			t.Fatal("it is kept")
		}
		for i := range was {
			p.v.Set(i/p.m.cols, i%p.m.cols, was[i])
		}
	}
}

// Two of New, of Eye, are two stores; so are a copy's copies.
func TestMadeAreNew(t *testing.T) {
	for _, n := range []int{1, 2, 5} {
		a, _ := view.New(n, n)
		b, _ := view.New(n, n)
		c, _ := view.Eye(n)
		d, _ := view.Eye(n)
		e := d.Copy()
		f := d.Copy()
		l := []view.View{a, b, c, d, e, f}
		for i, v := range l {
			v.Fill(float64(i))
		}
		for i, v := range l {
			shows(t, "made", v, n, n, slices.Repeat([]float64{float64(i)}, n*n)...)
			for j, o := range l {
				if v.Shares(o) != (i == j) {
					t.Error(i, j)
				}
			}
		}
	}
}

// What is asked only changes nothing: neither the view, nor the other one.
func TestAskedStays(t *testing.T) {
	a, b := newBoth(t, 3, 4, anyFloats(12, 17)), newBoth(t, 3, 4, anyFloats(12, 18))
	for _, p := range a.parts() {
		v := p.v
		v.Rows()
		v.Cols()
		v.Len()
		v.At(0, 0)
		v.Get(0)
		v.T()
		v.Row(0)
		v.Col(0)
		v.Part(0, 0, 1, 1)
		v.Diag()
		v.Matrix()
		v.Copy()
		v.Vector()
		v.Shares(b.v)
		view.Same(v, b.v)
		gone(v, 3)
		b.v.Part(0, 0, p.m.rows%4, p.m.cols%4).Take(v)
		if v != p.v {
			t.Fatal("the view")
		}
		a.check(t, "asked")
	}
}

// Take leaves what is taken, of another store, as it was; and shares nothing with it.
func TestTakenStays(t *testing.T) {
	o := newBoth(t, 3, 4, anyFloats(12, 19))
	v := countedView(t, 3, 4)
	expect(t, "Take", v.Take(o.v), api.OK)
	o.check(t, "what was taken")
	v.Fill(1)
	o.check(t, "what was taken")
	expect(t, "Take", v.Take(o.v), api.OK)
	was := o.m.floats()
	o.v.Fill(2)
	shows(t, "what took", v, 3, 4, was...)
	if v.Shares(o.v) {
		t.Error("shares")
	}
}

// P0.3: the greatest ones, within a short time.
func TestGreatest(t *testing.T) {
	n := api.MaxSize
	v, e := view.Eye(n)
	expect(t, "Eye", e, api.OK)
	if !v.Shares(v.T()) || !view.Same(v, v.T()) || !view.Same(v.Copy(), v) || v.Part(0, 0, n/2, n).Shares(v.Part(n/2, 0, n/2, n)) {
		t.Error("the greatest one")
	}
	expect(t, "Fill", v.Part(0, 1, n, n-1).Fill(3), api.OK)
	expect(t, "Take", v.Take(v.T()), api.OK)
	float(t, "At", v.At(n-1, 0), 3)
	float(t, "At", v.At(0, n-1), 0)
}
