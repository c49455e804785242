package guard_test

import (
	"math"
	"slices"
	"testing"

	"plumbline/api"
	"plumbline/guard"
)

func refusePower(t *testing.T, a api.Matrix, want api.Errno) {
	t.Helper()
	if p, e := guard.Power(a); p != 0 || e != want {
		t.Errorf("the power of %v: %d, %v, not %v", short(a), p, e, want)
	}
}

func refuseScale(t *testing.T, a api.Matrix, p int, want api.Errno) {
	t.Helper()
	if s, e := guard.Scale(a, p); !none(s) || e != want {
		t.Errorf("%v by 2^%d: %v, %v, not %v", short(a), p, short(s), e, want)
	}
}

// powersNot are those that Scale refuses.
func powersNot() []int {
	return []int{-2001, 2001, -2002, 2002, -1 << 20, 1 << 20, least32, most32, math.MinInt, math.MinInt + 2000, math.MaxInt - 2000, math.MaxInt}
}

// P5.3, P0.9: sizes that may not be: ahead of how many entries there are, and of what they are.
func TestSizesRefused(t *testing.T) {
	for _, s := range sizesNot() {
		for _, l := range []int{0, 1, 6, s[0] * s[1]} {
			if l < 0 || l > 1<<20 {
				continue
			}
			for _, f := range []float64{0, 1, inf, nan} {
				a := matrix(s[0], s[1], slices.Repeat([]float64{f}, l)...)
				refusePower(t, a, api.ErrArg)
				for _, p := range []int{-2001, -2000, 0, 3, 2000, 2001} {
					refuseScale(t, a, p, api.ErrArg)
				}
			}
		}
	}
}

// P5.3: one entry too few, one too many: ahead of what they are.
func TestEntriesRefused(t *testing.T) {
	for _, m := range []int{0, 1, 2, 5, api.MaxSize} {
		for _, n := range []int{0, 1, 3, api.MaxSize} {
			for _, l := range []int{m*n - 1, m*n + 1, 2*m*n + 1, m + n + 1} {
				if l < 0 || l == m*n {
					continue
				}
				for _, f := range []float64{0, 2, -inf, nan} {
					a := matrix(m, n, slices.Repeat([]float64{f}, l)...)
					refusePower(t, a, api.ErrShape)
					for _, p := range []int{-2000, 0, 7, 2000} {
						refuseScale(t, a, p, api.ErrShape)
					}
				}
			}
		}
	}
}

// P5.3: an entry that is not finite, at each place.
func TestNotFiniteRefused(t *testing.T) {
	for _, f := range endlessFloats() {
		for at := range 6 {
			a := matrix(2, 3, 1, minus, -3, 0, most, least)
			a.Data[at] = f
			refusePower(t, a, api.ErrFinite)
			for _, p := range []int{-2000, 0, 7, 2000} {
				refuseScale(t, a, p, api.ErrFinite)
			}
		}
	}
}

// P5.3: a power that may not be: ahead of all that is wrong with the matrix.
func TestPowersRefused(t *testing.T) {
	for _, p := range powersNot() {
		for _, a := range []api.Matrix{
			{}, row(1), row(0), matrix(2, 2, 1, 2, 3, 4), matrix(2, 2, 1, 2, 3), matrix(1, 1, 1, 2), row(inf), row(nan, 1), matrix(-1, 2), matrix(1, api.MaxSize+1, nan),
		} {
			refuseScale(t, a, p, api.ErrArg)
		}
	}
}
