package small_test

import (
	"math"
	"testing"

	"plumbline/small"
)

func givens(t *testing.T, f, g float64, want ...float64) {
	t.Helper()
	c, s, r := small.Givens(f, g)
	expect(t, "Givens", few(f, g), few(c, s, r), want)
}

func turn(t *testing.T, c, s, x, y float64, want ...float64) {
	t.Helper()
	p, q := small.Turn(c, s, x, y)
	expect(t, "Turn", few(c, s, x, y), few(p, q), want)
}

// P6.2: where one is 0, of either sign, the rotation is none, or a quarter; whatever the other one is.
func TestGivensOfZeros(t *testing.T) {
	for _, zero := range few(0, minus) {
		for _, f := range edges() {
			givens(t, f, zero, 1, 0, f)
			if f != 0 {
				givens(t, zero, f, 0, 1, f)
			}
		}
	}
}

// P6.2: the greater one first and second, both of one size, and of other signs.
func TestGivens(t *testing.T) {
	givens(t, 3, 4, times(0.8, 0.75), 0.8, 5)
	givens(t, 4, 3, 0.8, times(0.8, 0.75), 5)
	givens(t, -3, 4, times(0.8, -0.75), 0.8, 5)
	givens(t, 3, -4, times(0.8, -0.75), 0.8, -5)
	givens(t, -4, -3, 0.8, times(0.8, 0.75), -5)
	half := over(1, math.Sqrt2)
	givens(t, 1, 1, half, half, math.Sqrt2)
	givens(t, -1, 1, -half, half, math.Sqrt2)
	givens(t, 1, -1, -half, half, -math.Sqrt2)
	givens(t, -1, -1, half, half, -math.Sqrt2)
}

// P6.2: one much greater than the other one.
func TestGivensFarApart(t *testing.T) {
	givens(t, 1, 0x1p-27, 1, 0x1p-27, 1)
	givens(t, 0x1p-27, 1, 0x1p-27, 1, 1)
	givens(t, 1, least, 1, least, 1)
	givens(t, least, -1, -least, 1, -1)
	givens(t, most, least, 1, 0, most)
	givens(t, most, -least, 1, minus, most)
	givens(t, -least, most, minus, 1, most)
	givens(t, most, most, over(1, math.Sqrt2), over(1, math.Sqrt2), inf)
}

// P6.2, P0.9: infinities and NaNs.
func TestGivensOfNoNumbers(t *testing.T) {
	givens(t, inf, 1, 1, 0, inf)
	givens(t, inf, -1, 1, minus, inf)
	givens(t, -1, inf, minus, 1, inf)
	givens(t, 1, -inf, minus, 1, -inf)
	for _, f := range withSigns(inf) {
		for _, g := range withSigns(inf) {
			givens(t, f, g, nan, nan, nan)
		}
	}
	for _, f := range edges() {
		if f != 0 {
			givens(t, f, nan, nan, nan, nan)
			givens(t, nan, f, nan, nan, nan)
		}
	}
}

// P6.2, P0.5: bit by bit what the formula's exact operations tell.
func TestGivensByExactOperations(t *testing.T) {
	eachTwo(400, 71, func(f, g float64) {
		givens(t, f, g, givensOf(f, g)...)
		givens(t, g, f, givensOf(g, f)...)
	})
}

// P6.2: each product is rounded ahead of the sum: unrounded, the first ones would leave 2^-104, of either sign.
func TestTurnRoundsTwice(t *testing.T) {
	up, down := 1+step, 1-step
	turn(t, up, 1, down, -1, 0, -up-down)
	turn(t, 1, up, -1, down, 0, down+up)
	turn(t, up, 1, 1, down, up+down, 0)
	turn(t, 1, up, down, 1, down+up, 0)
	turn(t, up, -1, down, 1, 0, up+down)
}

// P6.2
func TestTurn(t *testing.T) {
	turn(t, 1, 0, 5, 7, 5, 7)
	turn(t, 0, 1, 5, 7, 7, -5)
	turn(t, 0.5, 2, 5, 7, 16.5, -6.5)
	turn(t, 1, 0, minus, minus, minus, 0-0)
	turn(t, 1, 0, 0, 0, 0, 0)
	turn(t, minus, 0, 1, 1, 0, minus)
	turn(t, 1, 1, most, most, inf, 0)
	turn(t, 1, 1, inf, 1, inf, -inf)
	turn(t, 1, 1, inf, inf, inf, nan)
	turn(t, 0, 1, inf, 1, nan, -inf)
	turn(t, 0, nan, 1, 1, nan, nan)
}

// P6.2: what Givens' rotation turns is r, and nearly nothing.
func TestTurnByGivens(t *testing.T) {
	next := near(-30, 30, 72)
	for range 5000 {
		f, g := next(), next()
		c, s, r := small.Givens(f, g)
		x, y := small.Turn(c, s, f, g)
		if bound := 8 * step * math.Abs(r); math.Abs(x-r) > bound || math.Abs(y) > bound {
			t.Fatalf("%x, %x: %x, %x, not %x, 0", f, g, x, y, r)
		}
	}
}

// P6.2, P0.5: bit by bit what the exact operations tell.
func TestTurnByExactOperations(t *testing.T) {
	l, words := fewEdges(), stream(73)
	edge := func() float64 { return l[words()>>9%uint64(len(l))] }
	for range 20000 {
		c, s, x, y := edge(), edge(), edge(), edge()
		turn(t, c, s, x, y, turnOf(c, s, x, y)...)
	}
	for _, next := range streams(74) {
		for range 1000 {
			c, s, x, y := next(), next(), next(), next()
			turn(t, c, s, x, y, turnOf(c, s, x, y)...)
			near := over(-times(c, x), s)
			turn(t, c, s, x, near, turnOf(c, s, x, near)...)
			near = over(times(s, x), c)
			turn(t, c, s, x, near, turnOf(c, s, x, near)...)
		}
	}
}
