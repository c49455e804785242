package view_test

import (
	"fmt"
	"testing"

	"plumbline/api"
	"plumbline/view"
)

// P7.2
func TestRowsAndCols(t *testing.T) {
	for _, s := range someSizes() {
		v := countedView(t, s[0], s[1])
		if v.Rows() != s[0] || v.Cols() != s[1] || v.T().Rows() != s[1] || v.T().Cols() != s[0] {
			t.Error(s)
		}
	}
}

// P7.2: as many places as a vector has; 0 of what is none, though it has some.
func TestLen(t *testing.T) {
	for _, s := range someSizes() {
		want := 0
		if s[0] == 1 || s[1] == 1 {
			want = s[0] * s[1]
		}
		v := countedView(t, s[0], s[1])
		if n := v.Len(); n != want || v.T().Len() != want {
			t.Error(s, n)
		}
	}
}

// P7.2: each place has its float.
func TestAt(t *testing.T) {
	for _, s := range someSizes() {
		l := anyFloats(s[0]*s[1], 2)
		v := made(t, s[0], s[1], l...)
		for i := range s[0] {
			for j := range s[1] {
				float(t, "At", v.At(i, j), l[i*s[1]+j])
				float(t, "T, At", v.T().At(j, i), l[i*s[1]+j])
			}
		}
	}
}

// P7.2: a float is set there, and nowhere else.
func TestSet(t *testing.T) {
	for _, s := range someSizes()[:25] {
		l := anyFloats(s[0]*s[1], 3)
		v := made(t, s[0], s[1], l...)
		for i := range s[0] {
			for j := range s[1] {
				for _, x := range append(nans(), 7, minus, 0, inf, -inf, least, -most) {
					expect(t, "Set", v.Set(i, j, x), api.OK)
					l[i*s[1]+j] = x
					shows(t, "Set", v, s[0], s[1], l...)
				}
			}
		}
	}
}

// P7.2, P0.9: just outside, below 0, the greatest ints: At is 0, Set ErrArg, and nothing is changed.
func TestPlacesThatAreNone(t *testing.T) {
	for _, s := range someSizes() {
		b := newBoth(t, s[0], s[1], counted(s[0]*s[1]))
		for _, b := range []both{b, {b.v.T(), b.m.turned()}, {b.v.Diag(), b.m.diag()}} {
			for _, i := range append(placesNot(b.m.rows), 0, b.m.rows-1) {
				for _, j := range append(placesNot(b.m.cols), 0, b.m.cols-1) {
					if 0 <= i && i < b.m.rows && 0 <= j && j < b.m.cols {
						continue
					}
					float(t, fmt.Sprint("At ", i, j), b.v.At(i, j), 0)
					expect(t, fmt.Sprint("Set ", i, j), b.v.Set(i, j, 5), api.ErrArg)
				}
			}
			b.check(t, "Set")
		}
	}
}

// P7.2: the last and the first place are there, those beside them are not: also where a part's neighbours are in the store.
func TestPlacesOfParts(t *testing.T) {
	v := countedView(t, 5, 6)
	p := v.Part(1, 2, 3, 2)
	for i := -2; i < 6; i++ {
		for j := -3; j < 7; j++ {
			want, e := 0.0, api.ErrArg
			if 0 <= i && i < 3 && 0 <= j && j < 2 {
				want, e = v.At(1+i, 2+j), api.OK
			}
			float(t, fmt.Sprint("At ", i, j), p.At(i, j), want)
			expect(t, fmt.Sprint("Set ", i, j), p.Set(i, j, want), e)
		}
	}
	shows(t, "all", v, 5, 6, counted(30)...)
}

// P7.2: a vector's places, of a row, a column, a diagonal, and of one place.
func TestGetAndPut(t *testing.T) {
	v := countedView(t, 4, 5)
	for _, x := range []struct {
		call string
		v    view.View
		want []float64
	}{
		{"row", v.Row(2), []float64{11, 12, 13, 14, 15}},
		{"column", v.Col(3), []float64{4, 9, 14, 19}},
		{"diagonal", v.Diag(), []float64{1, 7, 13, 19}},
		{"turned diagonal", v.T().Diag().T(), []float64{1, 7, 13, 19}},
		{"row, turned", v.T().Col(2), []float64{11, 12, 13, 14, 15}},
		{"one", v.Part(1, 1, 1, 1), []float64{7}},
		{"row of none", v.Part(1, 5, 1, 0), nil},
		{"column of none", v.Part(4, 1, 0, 1), nil},
		{"neither", v.Part(4, 5, 0, 0), nil},
	} {
		if x.v.Len() != len(x.want) {
			t.Fatal(x.call, x.v.Len())
		}
		for i, f := range x.want {
			float(t, x.call, x.v.Get(i), f)
			expect(t, x.call, x.v.Put(i, -f), api.OK)
			float(t, x.call, x.v.Get(i), -f)
			shows(t, x.call, v, 4, 5, with(counted(20), int(f)-1, -f)...)
			expect(t, x.call, x.v.Put(i, f), api.OK)
		}
		for _, i := range placesNot(len(x.want)) {
			float(t, x.call, x.v.Get(i), 0)
			expect(t, x.call, x.v.Put(i, 3), api.ErrArg)
		}
		shows(t, x.call, v, 4, 5, counted(20)...)
	}
}

// with is the list, with x at the place i.
func with(l []float64, i int, x float64) []float64 {
	l[i] = x
	return l
}

// P7.2: of what is no vector Get is 0, Put ErrShape, whatever the place.
func TestGetAndPutOfNoVector(t *testing.T) {
	for _, s := range someSizes() {
		if s[0] == 1 || s[1] == 1 || s == [2]int{} {
			continue
		}
		v := countedView(t, s[0], s[1])
		for _, i := range append(placesNot(s[0]*s[1]), 0, 1, s[0]*s[1]-1) {
			float(t, fmt.Sprint("Get ", s), v.Get(i), 0)
			expect(t, fmt.Sprint("Put ", s), v.Put(i, 3), api.ErrShape)
		}
		shows(t, "Put", v, s[0], s[1], counted(s[0]*s[1])...)
	}
}
