package guard_test

import (
	"testing"

	"plumbline/api"
	"plumbline/guard"
)

// The rows of the chapter's table, one by one.

func TestRowOne(t *testing.T) {
	takeSquare(t, 1, words(1.5), api.Good)
	takeSquare(t, 2, words(1, 2, 3, 4), api.BadInput)
}

func TestRowTwo(t *testing.T) {
	takeSquare(t, 1, words(nan), api.BadInput)
	takeSquare(t, 1, words(0x1p401), api.OutOfRange)
	takeSquare(t, 1, words(0x1p-401), api.OutOfRange)
	if a, c := guard.Square(0, nil); a.Rows != 0 || a.Cols != 0 || len(a.Data) != 0 || c != api.Good {
		t.Error(a, c)
	}
}

func TestRowThree(t *testing.T) {
	power(t, row(3, -0.25), 2)
	times(t, 3, -2, 0.75)
	times(t, 1, -1075, 0)
	times(t, 3, -1075, 0x1p-1073)
}
