package view

import "plumbline/api"

// At answers the float at a row and a column; 0, if there is no such place.
func (v View) At(i, j int) float64 {
	if !v.has(i, j) {
		return 0
	}
	return *v.cell(i, j)
}

// Set puts x at a row and a column.
func (v View) Set(i, j int, x float64) api.Errno {
	switch {
	case v.none():
		return api.ErrNil
	case !v.has(i, j):
		return api.ErrArg
	}
	*v.cell(i, j) = x
	return api.OK
}

// Get answers a vector's float at a place; 0, if there is no such place, or it is no vector.
func (v View) Get(i int) float64 {
	if !v.Vector() {
		return 0
	}
	return v.At(v.along(i))
}

// Put puts x at a vector's place.
func (v View) Put(i int, x float64) api.Errno {
	if !v.none() && !v.Vector() {
		return api.ErrShape
	}
	row, col := v.along(i)
	return v.Set(row, col, x)
}

// has tells if there is such a place.
func (v View) has(i, j int) bool {
	return 0 <= i && i < v.rows && 0 <= j && j < v.cols
}

// along answers the row and the column of a vector's place.
func (v View) along(i int) (row, col int) {
	if v.cols == 1 {
		return i, 0
	}
	return 0, i
}

// place answers the store's place that is shown at a row and a column.
func (v View) place(i, j int) [2]int {
	return [2]int{
		v.first[0] + i*v.down[0] + j*v.right[0],
		v.first[1] + i*v.down[1] + j*v.right[1],
	}
}

// cell answers where the store keeps what is shown at a row and a column.
func (v View) cell(i, j int) *float64 {
	p := v.place(i, j)
	return &v.of.floats[p[0]*v.of.cols+p[1]]
}
