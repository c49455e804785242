package tridiag_test

import (
	"testing"

	"plumbline/api"
)

// The rows of the chapter's table, one by one.

func TestRowOne(t *testing.T) {
	a := matrix(2, 2, 2, 1, 1, 3)
	reduce(a).is(t, a, reduced{t: tri(few(2, 3), 1)})
}

func TestRowTwo(t *testing.T) {
	got := reduce(matrix(3, 3, 1, 3, 4, 3, 0, 0, 4, 0, 0))
	if got.e != api.OK || !alike(got.t.E[0], -5) || !alike(got.t.D[0], 1) {
		t.Fatal(got.t, got.e)
	}
}

func TestRowThree(t *testing.T) {
	q(2).is(t, "Q", matrix(2, 2, 1, 0, 0, 1))
	q(0).is(t, "Q", matrix(0, 0))
}
