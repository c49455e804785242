package bidiag_test

import (
	"testing"

	"plumbline/api"
)

// The rows of the chapter's table, one by one.

func TestRowOne(t *testing.T) {
	a := matrix(2, 1, 3, 4)
	reduce(a).is(t, a, reduced{b: bi(few(-5)), h: []api.Reflection{reflection(1.6, 1, 0.5)}})
}

func TestRowTwo(t *testing.T) {
	a := matrix(2, 2, 1, 2, 0, 3)
	reduce(a).is(t, a, reduced{b: bi(few(1, 3), 2), h: none(2, 2)})
}

func TestRowThree(t *testing.T) {
	reduce(matrix(1, 2, 1, 2)).fails(t, api.ErrShape)
	q(2, 0).is(t, "Q", matrix(2, 0))
	p(0).is(t, "P", matrix(0, 0))
}
