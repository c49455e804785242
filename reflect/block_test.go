package reflect_test

import (
	"math"
	"slices"
	"testing"

	"plumbline/api"
	"plumbline/reflect"
)

// P9.3, P0.5, P0.9: one, two and more reflections, more of them than entries, too, whatever floats.
func TestFactor(t *testing.T) {
	for _, source := range sources(11) {
		for k := 1; k <= 6; k++ {
			for n := 1; n <= 6; n++ {
				for range 4 {
					l := anyReflections(k, n, source)
					factor(l...).is(t, "Factor", factorOf(l))
				}
			}
		}
		l := anyReflections(3, 200, source)
		factor(l...).is(t, "Factor", factorOf(l))
		l = anyReflections(20, 2, source)
		factor(l...).is(t, "Factor", factorOf(l))
	}
}

// The order is to be seen, and so would a fused sum be.
func TestFactorByHand(t *testing.T) {
	factor(reflection(1.6, 1, 0.5)).is(t, "Factor", matrix(1, 1, 1.6))
	factor(reflection(nan, inf)).is(t, "Factor", matrix(1, 1, nan))
	factor(reflection(minus, 3)).is(t, "Factor", matrix(1, 1, minus))
	factor(reflection(2, 1, 3), reflection(3, 1, 4)).is(t, "Factor", matrix(2, 2, 2, -78, 0, 3))
	// T(0, 2) is -5 times (2 times 1, and -78 times 1); T(1, 2) is -5 times 3 times 1.
	factor(reflection(2, 1, 3), reflection(3, 1, 4), reflection(5, 1, 0)).is(t, "Factor", matrix(3, 3, 2, -78, 380, 0, 3, -15, 0, 0, 5))
	factor(reflection(1, 0x1p53, 1, 1), reflection(-1, 1, 1, 1)).is(t, "Factor", matrix(2, 2, 1, 0x1p53, 0, -1))
	factor(reflection(1, 1, 1, 0x1p53), reflection(-1, 1, 1, 1)).is(t, "Factor", matrix(2, 2, 1, 0x1p53+2, 0, -1))
	factor(reflection(1, 1+step, -1), reflection(1, 1-step, 1)).is(t, "Factor", matrix(2, 2, 1, minus, 0, 1))
	factor(reflection(1, -1, 1+step), reflection(1, 1, 1-step)).is(t, "Factor", matrix(2, 2, 1, minus, 0, 1))
	factor(reflection(0, 1, 1), reflection(2, 1, 1)).is(t, "Factor", matrix(2, 2, 0, minus, 0, 2))
	factor(reflection(2, 1, 1), reflection(0, 1, 1)).is(t, "Factor", matrix(2, 2, 2, minus, 0, 0))
	factor(reflection(0, 1, inf), reflection(2, 1, 1)).is(t, "Factor", matrix(2, 2, 0, nan, 0, 2))
}

// P9.3: of more reflections than a matrix has rows, T has as many rows and columns as there are.
func TestFactorOfMany(t *testing.T) {
	const k = api.MaxSize + 1
	var l []api.Reflection
	for i := range k {
		l = append(l, reflection(float64(i), 0))
	}
	got := factor(l...)
	got.fails(t, "Factor", api.OK)
	if got.a.Rows != k || got.a.Cols != k || len(got.a.Data) != k*k || entry(got.a, k-1, k-1) != k-1 || entry(got.a, 3, 3) != 3 {
		t.Fatal(got.a.Rows, got.a.Cols, len(got.a.Data))
	}
	block(matrix(1, 1, 5), got.a, l...).fails(t, "Block", api.ErrArg)
}

// P9.3, P0.5, P0.9: whatever floats, by any t.
func TestBlock(t *testing.T) {
	for _, source := range sources(12) {
		for k := 1; k <= 4; k++ {
			for n := 1; n <= 4; n++ {
				for cols := range 4 {
					l := anyReflections(k, n, source)
					a, f := anyMatrix(n, cols, source), anyMatrix(k, k, source)
					block(a, f, l...).is(t, "Block", blockOf(a, f, l))
					block(a, factorOf(l), l...).is(t, "Block", blockOf(a, factorOf(l), l))
				}
			}
		}
		l := anyReflections(9, 100, source)
		a := anyMatrix(100, 2, source)
		block(a, factorOf(l), l...).is(t, "Block", blockOf(a, factorOf(l), l))
	}
}

// P9.3: Tau 0 among others; with t's 0 all of it is reckoned as it is written, so that NaNs spread.
func TestBlockOfTauZero(t *testing.T) {
	for _, source := range sources(13) {
		for zero := range 3 {
			for _, tau := range few(0, minus) {
				l := anyReflections(3, 4, source)
				l[zero].Tau = tau
				a := anyMatrix(4, 3, source)
				factor(l...).is(t, "Factor", factorOf(l))
				block(a, factorOf(l), l...).is(t, "Block", blockOf(a, factorOf(l), l))
			}
		}
	}
	h := reflection(0, 1, 2)
	block(matrix(2, 2, 1, 2, nan, 4), matrix(1, 1, 0), h).is(t, "Block", matrix(2, 2, nan, 2, nan, 4))
	block(matrix(2, 1, minus, minus), matrix(1, 1, 0), h).is(t, "Block", matrix(2, 1, minus, minus))
}

// The order is to be seen, and so would a fused sum be.
func TestBlockByHand(t *testing.T) {
	block(matrix(2, 1, 3, 4), matrix(1, 1, 1.6), reflection(9, 1, 0.5)).is(t, "Block", matrix(2, 1, -5, 0))
	// W is 1 3 and 2 3: 5, 7 and 8, 9; X is T turned: 2 5, 3 5 + 4 7; and so on.
	block(matrix(1, 2, 5, 8), matrix(2, 2, 2, 3, nan, 4), reflection(0, 1), reflection(0, 2)).is(t, "Block", matrix(1, 2, 5-(10+2*(15+40)), 8-(16+2*(24+64))))
	one, other := reflection(0, 1, 1, 1), reflection(0, 0, 0, 0)
	block(matrix(3, 1, 0x1p53, 1, 1), matrix(1, 1, 1), one).is(t, "Block", matrix(3, 1, 0, 1-0x1p53, 1-0x1p53))
	block(matrix(3, 1, 1, 1, 0x1p53), matrix(1, 1, 1), one).is(t, "Block", matrix(3, 1, -0x1p53, -0x1p53, -2))
	block(matrix(3, 1, 1, 1, 1), matrix(2, 2, 0, 0, 0, 0), one, other).is(t, "Block", matrix(3, 1, 1, 1, 1))
	// A difference that is fused would be 2^-104, a sum that is fused -2^-104.
	block(matrix(2, 1, -2*step, 1), matrix(1, 1, 1), reflection(1, 1, 1+step)).is(t, "Block", matrix(2, 1, -1-step, 0))
	block(matrix(2, 1, -1, 1+step), matrix(1, 1, 0x1p104), reflection(1, 1, 1-step)).is(t, "Block", matrix(2, 1, -1, 1+step))
	block(matrix(1, 1, 1), matrix(2, 2, -1, 1+step, 0, 1), reflection(1, 1), reflection(1, 1-step)).is(t, "Block", blockOf(matrix(1, 1, 1), matrix(2, 2, -1, 1+step, 0, 1), []api.Reflection{reflection(1, 1), reflection(1, 1-step)}))
}

// P9.3: of T the entries below the diagonal are not read, nor is a reflection's Tau.
func TestBlockNotRead(t *testing.T) {
	for _, source := range sources(14) {
		l := anyReflections(4, 3, source)
		a, f := anyMatrix(3, 2, source), anyMatrix(4, 4, source)
		want := blockOf(a, f, l)
		for i := range 4 {
			l[i].Tau = few(nan, inf, 0, minus)[i]
			for j := range i {
				f.Data[i*4+j] = few(nan, inf, -inf)[(i+j)%3]
			}
		}
		block(a, f, l...).is(t, "Block", want)
	}
}

// P9.3: a of no columns, of one row.
func TestBlockOfFew(t *testing.T) {
	l := []api.Reflection{reflection(1, nan, inf), reflection(2, 3, 4)}
	block(matrix(2, 0), matrix(2, 2, nan, nan, nan, nan), l...).is(t, "Block", matrix(2, 0))
	block(matrix(1, 3, 1, 2, 3), matrix(1, 1, 2), reflection(0, 1)).is(t, "Block", matrix(1, 3, -1, -2, -3))
}

// P9.3: of whole numbers, which are exact, Block does what the reflections do one behind the other, the first one first.
func TestBlockIsEach(t *testing.T) {
	source, next := sources(15)[3], stream(16)
	different := 0
	for range 300 {
		k, n, cols := 1+below(next, 4), 1+below(next, 4), below(next, 4)
		a, l := anyMatrix(n, cols, source), anyReflections(k, n, source)
		want, other := a, a
		for i := range l {
			want = left(want, 0, 0, l[i]).a
			other = left(other, 0, 0, l[k-1-i]).a
		}
		got := block(a, factor(l...).a, l...)
		got.fails(t, "Block", api.OK)
		if !slices.Equal(got.a.Data, want.Data) { // 0 and -0 are equal here
			t.Fatal(a, l, got, want)
		}
		if !slices.Equal(want.Data, other.Data) {
			different++
		}
	}
	if different < 100 {
		t.Error(different)
	}
}

// Of reflections that are made, it does so nearly.
func TestBlockIsNearlyEach(t *testing.T) {
	source, next := sources(17)[0], stream(18)
	for range 100 {
		k, n := 1+below(next, 6), 1+below(next, 30)
		var l []api.Reflection
		for range k {
			h, _, _ := reflect.Make(many(n, source)...)
			l = append(l, h)
		}
		a := anyMatrix(n, 3, source)
		want := a
		for _, h := range l {
			want = left(want, 0, 0, h).a
		}
		got := block(a, factor(l...).a, l...)
		for i, x := range want.Data {
			if math.Abs(got.a.Data[i]-x) > 1e-12*8*float64(n) {
				t.Fatal(i, got.a.Data[i], x)
			}
		}
	}
}
