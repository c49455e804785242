package small_test

import (
	"math"
	"testing"

	"plumbline/small"
)

// The rows of the chapter's table, one by one.

func TestRowOne(t *testing.T) {
	hypot(t, 3, 4, 5)
	hypot(t, 0, minus, 0)
	norm(t, 3, 1, 2, 2)
	norm(t, 0)
}

// The first row of Givens tells 0.6 in short: by the formula's order c is 0.8 times 0.75, rounded: the float behind the nearest one to 0.6.
func TestRowTwo(t *testing.T) {
	c, s, r := small.Givens(3, 4)
	expect(t, "Givens", few(3, 4), few(c, s, r), few(math.Nextafter(0.6, 1), 0.8, 5))
	givens(t, 5, 0, 1, 0, 5)
	givens(t, 0, 2, 0, 1, 2)
}

func TestRowThree(t *testing.T) {
	eigen(t, 2, 0, 1, 2, 1, -1, minus)
	eigen(t, 0, 0, 0, 0, minus, minus, 1)
}

func TestRowFour(t *testing.T) {
	singular(t, 3, 0, 4, 3, 4)
	singular(t, 0, 2, 0, 0, 2)
}
