package small_test

import (
	"math"
	"testing"

	"plumbline/small"
)

func eigen(t *testing.T, a, b, c float64, want ...float64) {
	t.Helper()
	x, y, cs, sn := small.Eigen(a, b, c)
	expect(t, "Eigen", few(a, b, c), few(x, y, cs, sn), want)
}

// singular holds for each sign of each.
func singular(t *testing.T, f, g, h float64, want ...float64) {
	t.Helper()
	for _, f := range withSigns(f) {
		for _, g := range withSigns(g) {
			for _, h := range withSigns(h) {
				p, q := small.Singular(f, g, h)
				expect(t, "Singular", few(f, g, h), few(p, q), want)
			}
		}
	}
}

// P6.3: b is 0, of either sign: a + c below 0, above 0, and 0; the one of the greater size first, and second, and both of one size.
func TestEigenOfDiagonals(t *testing.T) {
	eigen(t, 2, 0, 1, 2, 1, -1, minus)
	eigen(t, 2, minus, 1, 2, 1, -1, 0)
	eigen(t, 1, 0, 2, 2, 1, 0, 1)
	eigen(t, -2, 0, -1, -2, -1, -1, 0)
	eigen(t, -1, 0, -2, -2, -1, minus, 1)
	eigen(t, 1, 0, 1, 1, 1, minus, 1)
	eigen(t, -1, 0, -1, -1, -1, 1, 0)
	eigen(t, 3, 0, -3, 3, -3, -1, minus)
	eigen(t, -3, 0, 3, 3, -3, 0, 1)
	eigen(t, 5, 0, 0, 5, 0, -1, minus)
	eigen(t, 0, 0, 0, 0, minus, minus, 1)
	eigen(t, minus, minus, minus, 0, minus, minus, 1)
}

// P6.3: a and c are one: |cs| is just |b + b|; x and y lie b from them.
func TestEigenOfOneBeside(t *testing.T) {
	half := over(1, math.Sqrt2)
	eigen(t, 2, 1, 2, 3, 1, half, half)
	eigen(t, 2, -1, 2, 3, 1, -half, half)
	eigen(t, -2, 1, -2, -3, -1, half, -half)
	eigen(t, 0, 1, 0, 1, -1, half, half)
	eigen(t, 0, -1, 0, 1, -1, -half, half)
	eigen(t, 0, least, 0, least, -least, half, half)
}

// P6.3: |a - c| below |b + b|, above it, and just as much; with each sign of a - c, and of a + c.
func TestEigenBySizes(t *testing.T) {
	low := times(0.8, 0.75)
	eigen(t, 7, 12, 0, 16, -9, -0.8, -low)
	eigen(t, 0, 12, 7, 16, -9, low, 0.8)
	eigen(t, -7, 12, 0, -16, 9, -0.8, low)
	eigen(t, 0, 12, -7, -16, 9, -low, 0.8)
	eigen(t, 7, -12, 0, 16, -9, -0.8, low)
	eigen(t, 23, 12, 16, 32, 7, -0.8, -low)
	eigen(t, 3.5, 12, -3.5, 12.5, -12.5, -0.8, -low)
	eigen(t, -3.5, 12, 3.5, 12.5, -12.5, low, 0.8)
	third := over(-1, 3)
	long := over(1, root(plus(1, times(third, third))))
	eigen(t, 3.5, 1.5, -0.5, 4, -1, -long, times(third, long))
	eigen(t, -0.5, 1.5, 3.5, 4, -1, times(-third, long), long)
	eigen(t, 3, 1, 1, eigenOf(3, 1, 1)...)
	eigen(t, 1, -1, 3, eigenOf(1, -1, 3)...)
	eigen(t, 1, -1, -1, times(0.5, times(2, math.Sqrt2)), times(-0.5, times(2, math.Sqrt2)), eigenOf(1, -1, -1)[2], eigenOf(1, -1, -1)[3])
}

// P6.3, P0.9: what is neither above nor below is as the formula's last words say.
func TestEigenOfNoNumbers(t *testing.T) {
	eigen(t, inf, 0, inf, inf, nan, 1, 0)
	eigen(t, -inf, 0, -inf, -inf, nan, minus, 1)
	eigen(t, nan, 0, 1, 0, minus, 1, 0)
	eigen(t, 1, minus, nan, 0, minus, 1, 0)
	eigen(t, nan, 1, 1, math.Sqrt2, -math.Sqrt2, nan, nan)
	eigen(t, inf, 1, -inf, inf, -inf, -1, minus)
	eigen(t, inf, 0, 1, inf, nan, -1, minus)
	eigen(t, 1, nan, 2, nan, nan, nan, nan)
	eigen(t, 1, inf, 2, inf, nan, nan, nan)
	eigen(t, nan, nan, nan, nan, nan, nan, nan)
	eigen(t, most, 0, most, inf, 0, minus, 1)
}

// P6.3, P0.5: bit by bit what the formula's exact operations tell.
func TestEigenByExactOperations(t *testing.T) {
	eachThree(150, 81, func(a, b, c float64) { eigen(t, a, b, c, eigenOf(a, b, c)...) })
}

// P6.3: what is answered are eigenvalues, and a vector.
func TestEigenIsSo(t *testing.T) {
	next := near(-20, 20, 82)
	for range 5000 {
		a, b, c := next(), next(), next()
		x, y, cs, sn := small.Eigen(a, b, c)
		bound := 16 * step * small.Norm(a, b, b, c)
		if math.Abs(x) < math.Abs(y) || math.Abs(cs*cs+sn*sn-1) > 16*step ||
			math.Abs(a*cs+b*sn-x*cs) > bound || math.Abs(b*cs+c*sn-x*sn) > bound ||
			math.Abs(a*sn-b*cs-y*sn) > bound || math.Abs(b*sn-c*cs+y*cs) > bound {
			t.Fatalf("%x, %x, %x: %x, %x, %x, %x", a, b, c, x, y, cs, sn)
		}
	}
}

// P6.3: the lesser one on the diagonal is 0.
func TestSingularOfNoughts(t *testing.T) {
	singular(t, 0, 0, 0, 0, 0)
	singular(t, 0, 2, 0, 0, 2)
	singular(t, 0, least, 0, 0, least)
	singular(t, 0, inf, 0, 0, inf)
	singular(t, 0, nan, 0, 0, nan)
	for _, h := range few(least, 3, most, inf) {
		singular(t, 0, 0, h, 0, h)
		singular(t, h, 0, 0, 0, h)
	}
	singular(t, 0, 3, 4, 0, 5)
	singular(t, 4, 3, 0, 0, 5)
	singular(t, 3, 4, 0, 0, 5)
	singular(t, 0, 4, 3, 0, 5)
	singular(t, 0, 7, 7, 0, times(7, math.Sqrt2))
	singular(t, 0, inf, 3, 0, inf)
	singular(t, 0, 3, inf, 0, inf)
	singular(t, 0, inf, inf, 0, nan)
	singular(t, 0, nan, 3, 0, nan)
	singular(t, 3, nan, 0, 0, nan)
	singular(t, 0, 3, nan, 0, nan)
}

// P6.3: what is beside the diagonal is below the greater one on it, just it, and above it.
func TestSingular(t *testing.T) {
	singular(t, 3, 0, 4, 3, 4)
	singular(t, 4, 0, 3, 3, 4)
	singular(t, 1, 0, 1, 1, 1)
	singular(t, least, 0, most, least, most)
	singular(t, most, 0, most, most, most)
	singular(t, most, 1, least, least, most)
	gold := over(1, plus(root(5), 1))
	singular(t, 1, 1, 1, plus(gold, gold), over(1, plus(gold, gold)))
	below := 1 - step/2
	singular(t, 1, below, 1, singularOf(1, below, 1)...)
	singular(t, 1, 1+step, 1, singularOf(1, 1+step, 1)...)
}

// P6.3: what is beside the diagonal is so great that a quotient by it is 0.
func TestSingularFarApart(t *testing.T) {
	singular(t, least, most, least, 0, most)
	singular(t, 1e-200, 1e200, 1e-200, 0, 1e200)
	singular(t, 1, inf, 2, 0, inf)
	singular(t, most, inf, most, nan, inf)
	singular(t, 0x1p-540, 0x1p534, 0x1p-540, 0, 0x1p534)
	singular(t, 0x1p-540, 0x1p535, 0x1p-540, 0, 0x1p535)
	singular(t, 0x1p-51, most, 0x1p-51, 0, most)
}

// P6.3, P0.9
func TestSingularOfNoNumbers(t *testing.T) {
	singular(t, 1, 3, nan, nan, nan)
	singular(t, nan, 3, 1, nan, nan)
	singular(t, 1, nan, 3, nan, nan)
	singular(t, nan, nan, nan, nan, nan)
	singular(t, nan, 3, 0, nan, 3)
	singular(t, 1, inf, inf, nan, nan)
	singular(t, 1, 1, inf, nan, nan)
	singular(t, inf, 1, inf, nan, nan)
}

// P6.3, P0.5: bit by bit what the formula's exact operations tell.
func TestSingularByExactOperations(t *testing.T) {
	eachThree(100, 83, func(f, g, h float64) { singular(t, f, g, h, singularOf(f, g, h)...) })
}

// P6.3: what is answered are singular values: their product, and the sum of their squares, are the matrix's.
func TestSingularIsSo(t *testing.T) {
	next := near(-20, 20, 84)
	for range 5000 {
		f, g, h := next(), next(), next()
		p, q := small.Singular(f, g, h)
		if p > q || p < 0 || math.Abs(p*q-math.Abs(f*h)) > 16*step*math.Abs(f*h) || math.Abs(small.Hypot(p, q)-small.Norm(f, g, h)) > 16*step*q {
			t.Fatalf("%x, %x, %x: %x, %x", f, g, h, p, q)
		}
	}
}
