package view

import (
	"iter"
	"math"

	"plumbline/api"
)

// All goes over its places, row by row: each with its float, as it is when it is come to.
func (v View) All() iter.Seq2[[2]int, float64] {
	return func(yield func([2]int, float64) bool) {
		for i := range v.rows {
			for j := range v.cols {
				if !yield([2]int{i, j}, v.At(i, j)) {
					return
				}
			}
		}
	}
}

// Matrix answers what it shows, in new memory.
func (v View) Matrix() api.Matrix {
	if v.none() {
		return api.Matrix{}
	}
	m := api.Matrix{Rows: v.rows, Cols: v.cols, Data: make([]float64, 0, v.rows*v.cols)}
	for _, x := range v.All() {
		m.Data = append(m.Data, x)
	}
	return m
}

// Copy answers a view of the same floats, which are all of a new store.
func (v View) Copy() View {
	if v.none() {
		return v
	}
	return whole(v.rows, v.cols, v.Matrix().Data)
}

// Fill puts x at all places.
func (v View) Fill(x float64) api.Errno {
	if v.none() {
		return api.ErrNil
	}
	for p := range v.All() {
		*v.cell(p[0], p[1]) = x
	}
	return api.OK
}

// Take makes v show what o shows.
func (v View) Take(o View) api.Errno {
	switch {
	case v.none() || o.none():
		return api.ErrNil
	case v.rows != o.rows || v.cols != o.cols:
		return api.ErrShape
	}
	// Both may show the same places: what is written must not be read.
	for p, x := range o.Copy().All() {
		*v.cell(p[0], p[1]) = x
	}
	return api.OK
}

// Shares tells if there is a place of one store that both show.
func (v View) Shares(o View) bool {
	if v.of != o.of {
		return false
	}
	shown := map[[2]int]int{}
	for p := range v.All() {
		shown[v.place(p[0], p[1])]++
	}
	shares := false
search:
	for i := range o.rows {
		for j := range o.cols {
			if shares = shown[o.place(i, j)] > 0; shares {
				break search
			}
		}
	}
	return shares
}

// Same tells if both have as many rows and columns, and the same floats, NaNs being one.
func Same(a, b View) bool {
	if a.none() != b.none() || a.rows != b.rows || a.cols != b.cols {
		return false
	}
	for p, x := range a.All() {
		if !alike(x, b.At(p[0], p[1])) {
			return false
		}
	}
	return true
}

// alike tells if both are the same float, bit by bit, NaNs being one.
func alike(x, y float64) bool {
	return math.Float64bits(x) == math.Float64bits(y) || x != x && y != y
}
