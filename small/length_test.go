package small_test

import (
	"math"
	"testing"

	"plumbline/small"
)

func hypot(t *testing.T, x, y, want float64) {
	t.Helper()
	expect(t, "Hypot", few(x, y), few(small.Hypot(x, y)), few(want))
}

func norm(t *testing.T, want float64, l ...float64) {
	t.Helper()
	expect(t, "Norm", l, few(small.Norm(l...)), few(want))
}

// P6.1: the greater one first or second, of either sign, the same.
func TestHypot(t *testing.T) {
	for _, x := range []struct{ p, q, want float64 }{
		{3, 4, 5}, {5, 12, 13}, {8, 15, 17}, {0x3p600, 0x4p600, 0x5p600}, {0x3p-600, 0x4p-600, 0x5p-600},
		{1, 0, 1}, {most, 0, most}, {least, 0, least}, {inf, 0, inf}, {inf, 1, inf}, {inf, most, inf}, {inf, inf, nan}, {most, most, inf},
		{1, 1, math.Sqrt2}, {0x1p1000, 0x1p1000, 0x1p1000 * math.Sqrt2}, {least, least, least}, {3 * least, 4 * least, 5 * least},
		{1, 0x1p-25, 1 + 2*step}, {1, 0x1p-26, 1}, {1, 0x1p-27, 1}, {1, least, 1}, {most, 1, most}, {most, normal, most},
		{nan, 1, nan}, {nan, nan, nan}, {nan, inf, nan},
	} {
		for _, p := range withSigns(x.p) {
			for _, q := range withSigns(x.q) {
				hypot(t, p, q, x.want)
				hypot(t, q, p, x.want)
			}
		}
	}
}

// P6.1: a 0 first is 0 beside a NaN, as no NaN is above it; behind a NaN it is not.
func TestHypotOfZeroAndNaN(t *testing.T) {
	hypot(t, 0, nan, 0)
	hypot(t, minus, nan, 0)
	hypot(t, nan, 0, nan)
	hypot(t, nan, minus, nan)
	hypot(t, 0, 0, 0)
	hypot(t, 0, minus, 0)
	hypot(t, minus, 0, 0)
	hypot(t, minus, minus, 0)
}

// P6.1, P0.5: bit by bit what the formula's exact operations tell.
func TestHypotByExactOperations(t *testing.T) {
	eachTwo(500, 61, func(x, y float64) {
		hypot(t, x, y, hypotOf(x, y))
		hypot(t, y, x, hypotOf(y, x))
	})
}

// P6.1
func TestNorm(t *testing.T) {
	norm(t, 0)
	norm(t, 0, []float64{}...)
	norm(t, 0, 0)
	norm(t, 0, minus)
	norm(t, 0, 0, minus, 0)
	norm(t, 5, 3, 4)
	norm(t, 3, 1, 2, 2)
	norm(t, 3, -2, 0, 1, minus, 2)
	norm(t, 7, 2, -3, 6)
	norm(t, 2, 1, 1, 1, 1)
	norm(t, 5, -5)
	norm(t, least, least)
	norm(t, most, most)
	norm(t, most, -most, 1)
	norm(t, inf, most, most)
	norm(t, inf, 1, inf)
	norm(t, inf, inf, 1)
	norm(t, inf, -inf, 0, most)
	norm(t, nan, inf, -inf)
	norm(t, nan, nan)
	norm(t, nan, 0, nan)
	norm(t, nan, nan, 0, 5)
	norm(t, nan, 1, nan, 2)
	norm(t, nan, inf, nan)
}

// P6.1: a NaN is not above the scale, but all that is not 0 is above a scale that is 0.
func TestNormOfNaNsInPlaces(t *testing.T) {
	for n := range 5 {
		for k := range n {
			l := []float64{0, 1, least, most, inf}[:n]
			l[k] = nan
			norm(t, nan, l...)
		}
	}
}

// P6.1: of as many as a matrix may have rows, and of more.
func TestNormOfMany(t *testing.T) {
	for _, n := range []int{1, 4, 16, 256, 512, 513, 1024, 4096} {
		ones, alone := make([]float64, n), make([]float64, n)
		for i := range ones {
			ones[i] = math.Copysign(3, float64(i%2)-0.5)
		}
		norm(t, times(3, root(float64(n))), ones...)
		norm(t, 0, alone...)
		alone[n-1] = -7
		norm(t, 7, alone...)
	}
}

// P6.1, P0.5: bit by bit what the formula's exact operations tell: rising, falling, and in any order.
func TestNormByExactOperations(t *testing.T) {
	check := func(l ...float64) {
		t.Helper()
		norm(t, normOf(l), l...)
	}
	eachTwo(300, 62, func(x, y float64) { check(x, y) })
	eachThree(50, 63, func(x, y, z float64) { check(x, y, z) })
	for k, next := range streams(64) {
		for _, n := range []int{4, 5, 8, 31, 100, 512, 513, 700} {
			mixed, rising, falling := make([]float64, n), make([]float64, n), make([]float64, n)
			for i := range n {
				mixed[i] = next()
				rising[i] = 1 + 0.1*float64(i*(k+1))
				falling[i] = math.Ldexp(3, -i*(k+1))
			}
			check(mixed...)
			check(rising...)
			check(falling...)
		}
	}
}

// P6.1: each size, with each sign.
func TestSign(t *testing.T) {
	negative, positive := few(minus, -1, -least, -most, -inf, math.Float64frombits(0xFFF<<52+1), math.Float64frombits(math.MaxUint64)),
		few(0, 1, least, most, inf, math.Float64frombits(0x7FF<<52+1), math.Float64frombits(math.MaxInt64))
	for _, x := range edges() {
		size := math.Float64bits(x) &^ (1 << 63)
		for _, y := range positive {
			expect(t, "Sign", few(x, y), few(small.Sign(x, y)), few(math.Float64frombits(size)))
		}
		for _, y := range negative {
			expect(t, "Sign", few(x, y), few(small.Sign(x, y)), few(math.Float64frombits(size|1<<63)))
		}
	}
}
