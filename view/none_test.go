package view_test

import (
	"math"
	"testing"

	"plumbline/api"
	"plumbline/view"
)

// nones are views that are none, as they come of calls, and the zero one.
func nones(t *testing.T) []view.View {
	v := countedView(t, 2, 3)
	_, e := view.New(-1, 0)
	refused, _ := view.New(-1, 0)
	expect(t, "New", e, api.ErrArg)
	return []view.View{{}, v.Row(2), v.Col(-1), v.Part(3, 0, 0, 0), v.Part(0, 0, -1, 0), refused, v.Col(3).T(), v.Row(-1).Copy(), v.Row(7).Diag()}
}

// P7.2, P0.8
func TestNoneHasNoPlaces(t *testing.T) {
	for _, v := range nones(t) {
		if v.Rows() != 0 || v.Cols() != 0 || v.Len() != 0 || v.Vector() {
			t.Error("it has some")
		}
		for _, i := range append(placesNot(0), 0) {
			for _, j := range append(placesNot(0), 0) {
				float(t, "At", v.At(i, j), 0)
				expect(t, "Set", v.Set(i, j, nan), api.ErrNil)
			}
			float(t, "Get", v.Get(i), 0)
			expect(t, "Put", v.Put(i, 1), api.ErrNil)
		}
	}
}

// P7.3: nothing is cut out of it.
func TestNoneHasNoParts(t *testing.T) {
	for _, v := range nones(t) {
		isNone(t, "itself", v)
		isNone(t, "T", v.T())
		isNone(t, "T, T", v.T().T())
		isNone(t, "Diag", v.Diag())
		for _, i := range []int{-1, 0, 1, math.MaxInt, math.MinInt} {
			isNone(t, "Row", v.Row(i))
			isNone(t, "Col", v.Col(i))
			for _, n := range []int{-1, 0, 1, math.MaxInt, math.MinInt} {
				isNone(t, "Part", v.Part(i, i, n, n))
				isNone(t, "Part", v.Part(0, 0, n, i))
			}
		}
	}
}

// P7.4
func TestNoneAsAWhole(t *testing.T) {
	zero, _ := view.New(0, 0)
	full := countedView(t, 2, 3)
	for _, v := range nones(t) {
		if m := v.Matrix(); m.Rows != 0 || m.Cols != 0 || m.Data != nil {
			t.Error(m)
		}
		isNone(t, "Copy", v.Copy())
		expect(t, "Fill", v.Fill(1), api.ErrNil)
		for _, o := range append(nones(t), zero, full, full.Row(0), full.Part(0, 0, 0, 3)) {
			expect(t, "Take", v.Take(o), api.ErrNil)
			expect(t, "Take", o.Take(v), api.ErrNil)
		}
	}
	shows(t, "Take", full, 2, 3, counted(6)...)
}

// P7.5
func TestNoneBesideOthers(t *testing.T) {
	zero, _ := view.New(0, 0)
	full := countedView(t, 2, 3)
	for _, v := range nones(t) {
		for range 2 {
			for range v.All() {
				t.Error("All")
			}
		}
		v.All()(func([2]int, float64) bool { panic("there is no place") })
		for _, o := range nones(t) {
			if v.Shares(o) || !view.Same(v, o) {
				t.Error("none and none")
			}
		}
		for _, o := range []view.View{zero, full, full.Row(0), full.Part(2, 3, 0, 0), full.Part(0, 0, 0, 3)} {
			if v.Shares(o) || o.Shares(v) || view.Same(v, o) || view.Same(o, v) {
				t.Error("none and another one")
			}
		}
	}
}
