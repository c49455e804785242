package view_test

import (
	"fmt"
	"math"
	"testing"

	"plumbline/view"
)

// P7.3
func TestT(t *testing.T) {
	shows(t, "T", made(t, 2, 3, 1, 2, 3, 4, 5, 6).T(), 3, 2, 1, 4, 2, 5, 3, 6)
	for _, s := range someSizes() {
		b := newBoth(t, s[0], s[1], anyFloats(s[0]*s[1], 4))
		both{b.v.T(), b.m.turned()}.check(t, "T")
	}
}

// P7.3: each row is one, each column is one; of views without rows, or columns, too.
func TestRowAndCol(t *testing.T) {
	for _, s := range someSizes() {
		b := newBoth(t, s[0], s[1], anyFloats(s[0]*s[1], 5))
		for i := range s[0] {
			both{b.v.Row(i), b.m.part(i, 0, 1, s[1])}.check(t, "Row")
			both{b.v.T().Col(i), b.m.part(i, 0, 1, s[1]).turned()}.check(t, "T, Col")
		}
		for j := range s[1] {
			both{b.v.Col(j), b.m.part(0, j, s[0], 1)}.check(t, "Col")
			both{b.v.T().Row(j), b.m.part(0, j, s[0], 1).turned()}.check(t, "T, Row")
		}
	}
}

// P7.3, P0.9
func TestRowAndColThatAreNone(t *testing.T) {
	for _, s := range someSizes() {
		v := countedView(t, s[0], s[1])
		for _, i := range placesNot(s[0]) {
			isNone(t, fmt.Sprint("Row ", s, i), v.Row(i))
			isNone(t, fmt.Sprint("T, Col ", s, i), v.T().Col(i))
		}
		for _, j := range placesNot(s[1]) {
			isNone(t, fmt.Sprint("Col ", s, j), v.Col(j))
			isNone(t, fmt.Sprint("T, Row ", s, j), v.T().Row(j))
		}
	}
}

// P7.3: all parts of small views are just what is within; all beyond are none.
func TestPart(t *testing.T) {
	for _, s := range someSizes()[:25] {
		b := newBoth(t, s[0], s[1], anyFloats(s[0]*s[1], 6))
		for i := -2; i < s[0]+3; i++ {
			for j := -2; j < s[1]+3; j++ {
				for rows := -2; rows < s[0]+4; rows++ {
					for cols := -2; cols < s[1]+4; cols++ {
						b.cut(t, i, j, rows, cols)
					}
				}
			}
		}
	}
}

func (b both) cut(t *testing.T, i, j, rows, cols int) {
	t.Helper()
	call := fmt.Sprint("Part ", i, j, rows, cols, " of ", b.m.rows, " by ", b.m.cols)
	p := b.v.Part(i, j, rows, cols)
	if i < 0 || j < 0 || rows < 0 || cols < 0 || i+rows > b.m.rows || j+cols > b.m.cols {
		isNone(t, call, p)
	} else {
		both{p, b.m.part(i, j, rows, cols)}.check(t, call)
	}
}

// P7.3: no rows, or no columns, at the edge are a part; beyond it not.
func TestPartOfNone(t *testing.T) {
	v := made(t, 2, 3, 1, 2, 3, 4, 5, 6)
	shows(t, "no rows", v.Part(2, 0, 0, 3), 0, 3)
	shows(t, "no columns", v.Part(0, 3, 2, 0), 2, 0)
	shows(t, "neither", v.Part(2, 3, 0, 0), 0, 0)
	shows(t, "in the midst", v.Part(1, 1, 0, 2), 0, 2)
	isNone(t, "no rows, beyond", v.Part(3, 0, 0, 3))
	isNone(t, "no columns, beyond", v.Part(0, 4, 2, 0))
	isNone(t, "neither, beyond", v.Part(3, 3, 0, 0))
	isNone(t, "neither, beyond", v.Part(2, 4, 0, 0))
	isNone(t, "no rows, ahead", v.Part(-1, 0, 0, 3))
	isNone(t, "no rows, but too many columns", v.Part(2, 0, 0, 4))
	isNone(t, "fewer than 0", v.Part(1, 0, -1, 3))
	isNone(t, "fewer than 0", v.Part(0, 1, 2, -1))
}

// P7.3, P0.9: place and size together are more than the greatest int, or come to something within.
func TestPartOfGreatInts(t *testing.T) {
	great := []int{math.MaxInt, math.MaxInt - 1, math.MaxInt - 2, 1 << 62, 1<<62 + 1, math.MinInt, math.MinInt + 1, math.MinInt + 2, -1 << 62, 1 << 32, -1 << 32}
	for _, s := range [][2]int{{2, 3}, {0, 0}, {4, 1}, {512, 2}} {
		v := countedView(t, s[0], s[1])
		for _, v := range []view.View{v, v.T(), v.Diag(), v.Part(0, 0, s[0], s[1])} {
			for _, g := range great {
				for _, h := range append(great, -1, 0, 1, 2, 3) {
					for _, p := range [][4]int{{g, 0, h, 0}, {h, 0, g, 0}, {0, g, 0, h}, {0, h, 0, g}, {g, g, h, h}, {h, h, g, g}, {0, 0, g, h}, {g, h, 0, 0}, {g, h, 1, 1}} {
						isNone(t, fmt.Sprint("Part ", p), v.Part(p[0], p[1], p[2], p[3]))
					}
				}
			}
		}
	}
}

// P7.3: as many as there are, also of none.
func TestDiag(t *testing.T) {
	shows(t, "Diag", made(t, 2, 3, 1, 2, 3, 4, 5, 6).Diag(), 2, 1, 1, 5)
	shows(t, "T, Diag", made(t, 2, 3, 1, 2, 3, 4, 5, 6).T().Diag(), 2, 1, 1, 5)
	for _, s := range someSizes() {
		b := newBoth(t, s[0], s[1], anyFloats(s[0]*s[1], 7))
		both{b.v.Diag(), b.m.diag()}.check(t, "Diag")
		both{b.v.Diag().T(), b.m.diag().turned()}.check(t, "Diag, T")
		both{b.v.Diag().Diag(), b.m.diag().diag()}.check(t, "Diag, Diag")
		if !b.v.Diag().Vector() || b.v.Diag().Len() != min(s[0], s[1]) {
			t.Fatal(s)
		}
	}
}

// P7.3: parts of parts, turned ones, their rows, columns and diagonals.
func TestPartsOfParts(t *testing.T) {
	b := newBoth(t, 4, 5, counted(20))
	for _, p := range b.parts() {
		p.check(t, "a part")
		for i := range p.m.rows {
			both{p.v.Row(i), p.m.part(i, 0, 1, p.m.cols)}.check(t, "its row")
		}
		for j := range p.m.cols {
			both{p.v.Col(j), p.m.part(0, j, p.m.rows, 1)}.check(t, "its column")
			both{p.v.Col(j).Diag(), p.m.part(0, j, p.m.rows, 1).diag()}.check(t, "its column's diagonal")
		}
		if p.m.rows > 1 && p.m.cols > 1 {
			q := both{p.v.Part(1, 1, p.m.rows-1, p.m.cols-1), p.m.part(1, 1, p.m.rows-1, p.m.cols-1)}
			q.check(t, "its part")
			both{q.v.T(), q.m.turned()}.check(t, "its part, turned")
			both{q.v.Diag(), q.m.diag()}.check(t, "its part's diagonal")
		}
		isNone(t, "beyond its rows", p.v.Row(p.m.rows))
		isNone(t, "beyond its columns", p.v.Col(p.m.cols))
		isNone(t, "beyond it", p.v.Part(0, 0, p.m.rows+1, p.m.cols))
	}
}
