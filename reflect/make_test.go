package reflect_test

import (
	"math"
	"slices"
	"testing"

	"plumbline/api"
	"plumbline/reflect"
)

// makesAs expects what the chapter's words make of it.
func makesAs(t *testing.T, x []float64) {
	t.Helper()
	v, tau, beta := makeOf(x)
	made(t, x, v, tau, beta)
}

// P9.1: of no entries.
func TestMakeOfNone(t *testing.T) {
	for _, x := range [][]float64{nil, {}} {
		h, beta, e := reflect.Make(x...)
		if e != api.ErrArg || len(h.V) != 0 || !alike(h.Tau, 0) || !alike(beta, 0) {
			t.Fatal(h, beta, e)
		}
	}
}

// P9.1: one entry, whatever it is, and some behind which there are noughts alone: Tau 0, beta the first one, bit by bit.
func TestMakeOfNoLength(t *testing.T) {
	for _, first := range edges() {
		made(t, few(first), few(1), 0, first)
		made(t, few(first, 0), few(1, 0), 0, first)
		made(t, few(first, minus), few(1, 0), 0, first)
		made(t, few(first, 0, minus, minus, 0), few(1, 0, 0, 0, 0), 0, first)
		made(t, append(few(first), make([]float64, 600)...), append(few(1), make([]float64, 600)...), 0, first)
	}
}

// P9.1: beta has the other sign than x1; a 0 is above, a -0 is below.
func TestMakeByHand(t *testing.T) {
	made(t, few(-3, 4), few(1, -0.5), 1.6, 5)
	made(t, few(3, -4), few(1, -0.5), 1.6, -5)
	made(t, few(3, 0, 4), few(1, 0, 0.5), 1.6, -5)
	made(t, few(3, minus, 4), few(1, minus, 0.5), 1.6, -5)
	made(t, few(-3, 0, 4), few(1, minus, -0.5), 1.6, 5)
	made(t, few(0, 4), few(1, 1), 1, -4)
	made(t, few(minus, 4), few(1, -1), 1, 4)
	made(t, few(0, 0, -4), few(1, 0, -1), 1, -4)
	made(t, few(minus, 0, -4), few(1, minus, 1), 1, 4)
	made(t, few(0, 4, 0), few(1, 1, 0), 1, -4)
	made(t, few(1, 2, 2), few(1, 0.5, 0.5), 4.0/3, -3)
	made(t, few(0x1p-540*3, 0x1p-540*4), few(1, 0.5), 1.6, -0x1p-540*5)
	made(t, few(0x1p540*3, 0x1p540*4), few(1, 0.5), 1.6, -0x1p540*5)
}

// P9.1: an infinite length, a length that is none, sums that are too great, quotients that are.
func TestMakeBeyond(t *testing.T) {
	made(t, few(1, inf), few(1, nan), nan, -inf)
	made(t, few(-1, inf, 2), few(1, nan, minus), nan, inf)
	made(t, few(inf, 1), few(1, 0), nan, -inf)
	made(t, few(-inf, 1), few(1, minus), nan, inf)
	made(t, few(inf, inf), few(1, nan), nan, nan)
	made(t, few(nan, 1, 2), few(1, nan, nan), nan, nan)
	made(t, few(3, nan, 4), few(1, nan, nan), nan, nan)
	made(t, few(3, inf, -inf), few(1, nan, nan), nan, nan)
	// Hypot of a 0 and a NaN is 0.
	made(t, few(0, nan, 3, 0), few(1, nan, inf, nan), nan, minus)
	made(t, few(minus, nan, 3, 0), few(1, nan, -inf, nan), nan, 0)
	// x1 less beta is an infinity, so that q is 0.
	made(t, few(most, 1), few(1, 0), inf, -most)
	made(t, few(-most, 1), few(1, minus), inf, most)
	made(t, few(most, most), few(1, 0), nan, -inf)
	// 1 by what is below 2^-1024 is an infinity.
	made(t, few(0, least), few(1, inf), 1, -least)
	made(t, few(0, least, 0), few(1, inf, nan), 1, -least)
}

// P9.1, P0.5: all pairs and threes of the edges.
func TestMakeOfEdges(t *testing.T) {
	for _, x := range edges() {
		for _, y := range edges() {
			makesAs(t, few(x, y))
			for _, z := range edges() {
				makesAs(t, few(x, y, z))
			}
		}
	}
}

// P9.1, P0.5, P0.9: floats of all kinds, more of them than a matrix has rows, too.
func TestMakeOfAny(t *testing.T) {
	for _, from := range sources(1) {
		for n := 1; n <= 24; n++ {
			for range 12 {
				makesAs(t, many(n, from))
			}
		}
		makesAs(t, many(api.MaxSize, from))
		makesAs(t, many(api.MaxSize+1, from))
	}
}

// P9.1: the length's order is to be seen, as is that of the whole.
func TestMakeOrder(t *testing.T) {
	next := stream(2)
	from := func() float64 { return near(next) }
	other, quotient := 0, 0
	for range 300 {
		x := many(12, from)
		makesAs(t, x)
		h, beta, _ := reflect.Make(x...)
		slices.Reverse(x[1:])
		if _, b, _ := reflect.Make(x...); b != beta {
			other++
		}
		if slices.Reverse(x[1:]); h.V[1] != x[1]/(x[0]-beta) {
			quotient++
		}
	}
	if other == 0 || quotient == 0 {
		t.Error(other, quotient)
	}
}

// Times a power of two, within the range, the same v and Tau, and beta times it.
func TestMakeScaled(t *testing.T) {
	next := stream(3)
	for range 200 {
		x := many(1+below(next, 9), func() float64 { return near(next) })
		h, beta, _ := reflect.Make(x...)
		for _, p := range []int{-900, -500, -1, 1, 60, 500, 900} {
			var y []float64
			for _, f := range x {
				y = append(y, math.Ldexp(f, p))
			}
			made(t, y, h.V, h.Tau, math.Ldexp(beta, p))
		}
	}
}
