package guard_test

import (
	"math"
	"math/big"
	"testing"

	"plumbline/api"
	"plumbline/guard"
)

func power(t *testing.T, a api.Matrix, want int) {
	t.Helper()
	if p, e := guard.Power(a); p != want || e != api.OK {
		t.Errorf("the power of %v: %d, %v, not %d", short(a), p, e, want)
	}
}

func scaled(t *testing.T, a api.Matrix, p int) api.Matrix {
	t.Helper()
	s, e := guard.Scale(a, p)
	if e != api.OK || s.Rows != a.Rows || s.Cols != a.Cols || len(s.Data) != len(a.Data) {
		t.Fatalf("%v by 2^%d: %v, %v", short(a), p, short(s), e)
	}
	return s
}

// P5.3: of none, and of zeros.
func TestPowerOfZeros(t *testing.T) {
	for _, a := range []api.Matrix{
		{}, {Rows: 3}, {Cols: api.MaxSize}, row(0), row(minus), row(minus, 0), matrix(2, 2, 0, minus, minus, 0),
		matrix(api.MaxSize, api.MaxSize, make([]float64, api.MaxSize*api.MaxSize)...),
	} {
		power(t, a, 0)
	}
}

// P5.3: each power of two, the float just below it, and just above it.
func TestPowerOfEach(t *testing.T) {
	for p := -1074; p <= 1023; p++ {
		f := math.Ldexp(1, p)
		below := math.Nextafter(f, 0)
		power(t, row(f), p+1)
		power(t, matrix(2, 1, 0, -f), p+1)
		power(t, row(-below, f), p+1)
		if below != 0 {
			power(t, row(below, minus, below, -below), p)
		}
		if above := math.Nextafter(f, inf); p > -1074 {
			power(t, row(f, -above), p+1)
		}
	}
	power(t, row(most), 1024)
	power(t, row(-most, least), 1024)
	power(t, row(greatSub), -1022)
	power(t, row(3*least), -1072)
	power(t, row(0.75), 0)
	power(t, row(0.5), 0)
	power(t, row(0.25, -0.375), -1)
}

// P5.3: the greatest size counts, at whatever place.
func TestPowerOfMany(t *testing.T) {
	for at := range 12 {
		l := make([]float64, 12)
		for i := range l {
			l[i] = float64(i) / 16
		}
		l[at] = -5
		power(t, matrix(3, 4, l...), 3)
	}
	next := stream(8)
	for seed := range uint64(2000) {
		m, n := int(next()%5), int(next()%5)
		l := anyFloats(m*n, seed)
		for i := range l {
			l[i] = timesOf(l[i], -int(next()%1500))
		}
		if p, e := guard.Power(matrix(m, n, l...)); e != api.OK || !isPower(p, l) {
			t.Fatal(l, p, e)
		}
	}
}

// P5.3: each entry's Times.
func TestScale(t *testing.T) {
	for _, p := range []int{-2000, -1999, -1100, -1075, -1074, -801, -400, -53, -1, 0, 1, 52, 400, 801, 1023, 1024, 1999, 2000} {
		for seed := range uint64(20) {
			m, n := int(seed)%7, int(seed+uint64(p+2000))%5
			a := matrix(m, n, anyFloats(m*n, seed)...)
			for i, f := range scaled(t, a, p).Data {
				if want := timesOf(a.Data[i], p); !alike(f, want) {
					t.Errorf("%x times 2^%d: %x, not %x", a.Data[i], p, f, want)
				}
			}
		}
	}
}

// P5.3: by 2^0 each stays as it is, also zeros' signs; of none comes none.
func TestScaleByNothing(t *testing.T) {
	l := append(append(inside(), outside()...), anyFloats(100, 9)...)
	if s := scaled(t, row(l...), 0); !same(s, row(l...)) {
		t.Error(s)
	}
	zeros := matrix(3, 1, minus, 0, minus)
	for _, p := range []int{-2000, -1, 1, 2000} {
		if s := scaled(t, zeros, p); !same(s, zeros) {
			t.Error(s)
		}
		for _, a := range []api.Matrix{{}, {Rows: 5}, {Cols: api.MaxSize}} {
			if s := scaled(t, a, p); !same(s, a) {
				t.Error(s)
			}
		}
	}
}

// P5.3: by the farthest powers.
func TestScaleFar(t *testing.T) {
	up := scaled(t, row(least, -3*least, most, minus, normal), 2000)
	if want := row(0x1p926, -3*0x1p926, inf, minus, 0x1p978); !same(up, want) {
		t.Error(up, want)
	}
	down := scaled(t, row(0x1p926, -3*0x1p926, most, minus, -0x1p925, 0x1p925+0x1p900), -2000)
	if want := row(least, -3*least, timesOf(most, -2000), minus, minus, least); !same(down, want) {
		t.Error(down, want)
	}
}

// P5.4, P0.7: in range, by minus its power, and back.
func TestThereAndBack(t *testing.T) {
	var all []api.Matrix
	for _, x := range inside() {
		all = append(all, row(x), row(x, minus), row(0, -x))
		for _, y := range inside() {
			all = append(all, matrix(2, 1, x, y))
		}
	}
	for seed := range uint64(50) {
		all = append(all, matrix(int(seed), 13, inRange(int(seed)*13, seed)...))
	}
	all = append(all, matrix(api.MaxSize, api.MaxSize, inRange(api.MaxSize*api.MaxSize, 10)...), api.Matrix{}, api.Matrix{Rows: 9})
	for _, a := range all {
		p, e := guard.Power(a)
		if e != api.OK || p < -399 || p > 401 {
			t.Fatal(short(a), p, e)
		}
		s := scaled(t, a, -p)
		for i, f := range s.Data {
			if math.Abs(f) >= 1 || !exactly(f, a.Data[i], -p) {
				t.Errorf("%x times 2^%d: %x", a.Data[i], -p, f)
			}
		}
		if back := scaled(t, s, p); !same(back, a) {
			t.Error(short(a), short(back))
		}
		if again, e := guard.Power(s); again != 0 || e != api.OK {
			t.Error(short(s), again, e)
		}
	}
}

// exactly tells if f is x times 2^p, as real numbers.
func exactly(f, x float64, p int) bool {
	y := big.NewFloat(x)
	return y.SetMantExp(y, p).Cmp(big.NewFloat(f)) == 0
}
