package kernels_test

import (
	"testing"

	"plumbline/api"
	"plumbline/kernels"
	"plumbline/view"
)

// The rows of the chapter's table, one by one.

func TestRowOne(t *testing.T) {
	dot(t, row(t, 1, 2, 3), row(t, 4, 5, 6), 32)
	asum(t, row(t, 1, -2), 3)
	amax(t, row(t, 1, -3, 3), 1, 3)
}

func TestRowTwo(t *testing.T) {
	y := column(t, 8, 9)
	expect(t, "Gemv", kernels.Gemv(1, made(t, 2, 2, 1, 2, 3, 4), column(t, 1, 1), 0, y), api.OK)
	shows(t, "Gemv", y, 3, 7)
}

func TestRowThree(t *testing.T) {
	m := column(t, 1, 1)
	expect(t, "Trmm", kernels.Trmm(false, false, made(t, 2, 2, 1, 9, 2, 3), m), api.OK)
	shows(t, "Trmm", m, 1, 5)
}

func TestRowFour(t *testing.T) {
	_, e := kernels.Dot(row(t, 1), row(t, 1, 2))
	expect(t, "Dot", e, api.ErrShape)
	_, e = kernels.Dot(view.View{}, row(t, 1))
	expect(t, "Dot", e, api.ErrNil)
	l := fill(t, func() float64 { return 1 }, [][2]int{{2, 3}, {2, 3}, {2, 3}})
	expect(t, "Gemm", kernels.Gemm(1, l[0], l[1], 1, l[2]), api.ErrShape)
}
