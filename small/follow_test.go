package small_test

import (
	"math"
	"testing"

	"plumbline/small"
)

func finite(l ...float64) bool {
	for _, x := range l {
		if math.IsNaN(x) || math.IsInf(x, 0) {
			return false
		}
	}
	return true
}

// rangeEnds are 0, and floats from 2^-400 to 2^400, the ends among them, with both signs.
func rangeEnds() []float64 {
	return withSigns(0, 0x1p-400, 0x1p-400+0x1p-452, 0x1p-399, 0x1p-200, 0x1p-27, 0.1, 1-step/2, 1, 1+step, 3, 0x1p27, 0x1p200, 0x1p399, 0x1p400-0x1p347, 0x1p400)
}

// eachTwoInRange goes over two of the ends each, and n others.
func eachTwoInRange(n int, do func(x, y float64)) {
	for _, x := range rangeEnds() {
		for _, y := range rangeEnds() {
			do(x, y)
		}
	}
	for _, next := range []func() float64{ranged(91), near(-2, 2, 92), near(-30, 30, 93)} {
		for range n {
			x, y := next(), next()
			do(x, y)
			do(x, -x)
		}
	}
}

// lists are of floats in range: of no float, of one, up to 512, with noughts among them.
func lists() [][]float64 {
	var l [][]float64
	for _, next := range []func() float64{ranged(94), near(-2, 2, 95), near(-30, 30, 96), func() float64 { return -0x1p400 }, func() float64 { return 0x1p-400 }, func() float64 { return minus }} {
		for _, n := range []int{0, 1, 2, 3, 7, 100, 511, 512} {
			one := make([]float64, n)
			for i := range one {
				one[i] = next()
			}
			l = append(l, one)
		}
	}
	return l
}

// P6.4: of floats in range, finite answers.
func TestFinite(t *testing.T) {
	eachTwoInRange(3000, func(x, y float64) {
		c, s, r := small.Givens(x, y)
		if !finite(small.Hypot(x, y), small.Norm(x, y), c, s, r) {
			t.Fatalf("%x, %x", x, y)
		}
	})
	for _, l := range lists() {
		if n := small.Norm(l...); !finite(n) {
			t.Fatalf("%x: %x", l, n)
		}
	}
}

// P6.4: the one and the other one, in both orders.
func TestHypotTurned(t *testing.T) {
	eachTwoInRange(10000, func(x, y float64) {
		if p, q := small.Hypot(x, y), small.Hypot(y, x); !alike(p, q) {
			t.Fatalf("%x, %x: %x, %x", x, y, p, q)
		}
	})
}

// P6.4: times a power of 2, the same bits.
func TestScaled(t *testing.T) {
	eachTwoInRange(300, func(x, y float64) {
		h, n := small.Hypot(x, y), small.Norm(x, y)
		for p := -99; p <= 99; p++ {
			x, y := math.Ldexp(x, p), math.Ldexp(y, p)
			hypot(t, x, y, math.Ldexp(h, p))
			norm(t, math.Ldexp(n, p), x, y)
		}
	})
}

// P6.4
func TestNormScaled(t *testing.T) {
	for _, l := range lists() {
		n := small.Norm(l...)
		for p := -99; p <= 99; p++ {
			scaled := make([]float64, len(l))
			for i, x := range l {
				scaled[i] = math.Ldexp(x, p)
			}
			norm(t, math.Ldexp(n, p), scaled...)
		}
	}
}

// P6.4: by exact numbers, what the squares of Givens' c and s come to is at most 16 u from 1.
func TestGivensIsOne(t *testing.T) {
	bound := exactly(16 * 0x1p-53)
	eachTwoInRange(3000, func(f, g float64) {
		c, s, _ := small.Givens(f, g)
		off := squares(c, s)
		off.Sub(off, exactly(1))
		if off.Abs(off).Cmp(bound) > 0 {
			t.Fatalf("%x, %x: %x, %x: %g", f, g, c, s, off)
		}
	})
}

// P0.3, P0.5, P0.9: whatever comes in, each call ends, and answers the same again.
func TestSameAgain(t *testing.T) {
	all := func(x, y, z float64) []float64 {
		c, s, r := small.Givens(x, y)
		p, q := small.Turn(x, y, z, x)
		a, b, d, e := small.Eigen(x, y, z)
		l, m := small.Singular(x, y, z)
		return few(small.Hypot(x, y), small.Norm(x, y, z), small.Sign(x, y), c, s, r, p, q, a, b, d, e, l, m)
	}
	eachThree(1000, 97, func(x, y, z float64) { expect(t, "all", few(x, y, z), all(x, y, z), all(x, y, z)) })
}

// What is handed in stays the caller's, and so does what lies behind its end.
func TestNormLeavesTheList(t *testing.T) {
	for _, next := range streams(98) {
		for n := range 40 {
			l := make([]float64, n+3)
			for i := range l {
				l[i] = next()
			}
			was := append(few(), l...)
			first := small.Norm(l[:n]...)
			expect(t, "list", was, l, was)
			norm(t, first, l[:n]...)
		}
	}
}
