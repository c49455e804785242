package view

// T answers what shows the rows as columns.
func (v View) T() View {
	return v.cut(true, func(part *View) {
		part.rows, part.cols = v.cols, v.rows
		part.down, part.right = v.right, v.down
	})
}

// Row answers the row i, as a view of one row.
func (v View) Row(i int) View { return v.Part(i, 0, 1, v.cols) }

// Col answers the column j, as a view of one column.
func (v View) Col(j int) View { return v.Part(0, j, v.rows, 1) }

// Part answers rows by cols floats, from the row i and the column j on.
func (v View) Part(i, j, rows, cols int) View {
	return v.cut(within(i, rows, v.rows) && within(j, cols, v.cols), func(part *View) {
		part.first = v.place(i, j)
		part.rows, part.cols = rows, cols
	})
}

// Diag answers the places whose row and column are the same, as a column.
func (v View) Diag() View {
	return v.cut(true, func(part *View) {
		part.rows, part.cols = min(v.rows, v.cols), 1
		for axis := range part.down {
			part.down[axis] += v.right[axis]
		}
	})
}

// cut answers the part of v that shape makes of it; one that is none, if v is none, or has no such part.
func (v View) cut(has bool, shape func(part *View)) View {
	if v.none() || !has {
		return View{}
	}
	part := v
	shape(&part)
	return part
}

// within tells if n places from the place at on are all among the first size ones.
func within(at, n, size int) bool {
	return 0 <= at && 0 <= n && n <= size-at
}
