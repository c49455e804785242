package dyad

import (
	"math"
	"math/big"
	"testing"

	"plumbline/api"
)

// P3.1
func TestMay(t *testing.T) {
	for _, d := range samples() {
		if !May(d) {
			t.Errorf("%s may be", short(d))
		}
	}
	for i, d := range wrong() {
		if May(d) {
			t.Errorf("%d: may not be", i)
		}
	}
}

// P3.1
func TestNorm(t *testing.T) {
	for _, d := range samples() {
		got, e := Norm(d)
		expect(t, "Norm", got, e, value(d))
	}
}

// P3.1: what rises beyond MaxExp, or goes back within, as it becomes normal.
func TestNormAtTheEnds(t *testing.T) {
	d, e := Norm(api.Dyad{M: []uint64{2}, E: api.MaxExp})
	refuse(t, "Norm", d, e, api.ErrLong)
	d, e = Norm(api.Dyad{M: []uint64{6}, E: api.MaxExp - 1})
	expect(t, "Norm", d, e, number{big.NewInt(3), api.MaxExp})
	d, e = Norm(api.Dyad{M: []uint64{2}, E: -api.MaxExp - 1})
	refuse(t, "Norm", d, e, api.ErrArg)
	d, e = Norm(api.Dyad{Neg: true, M: top(api.MaxLimbs), E: -api.MaxExp})
	expect(t, "Norm", d, e, number{big.NewInt(-1), -1})
	d, e = Norm(api.Dyad{M: top(api.MaxLimbs), E: 2})
	refuse(t, "Norm", d, e, api.ErrLong)
	d, e = Norm(api.Dyad{E: api.MaxExp})
	expect(t, "Norm", d, e, number{new(big.Int), 0})
}

// P3.1
func TestOf(t *testing.T) {
	for _, f := range floats() {
		d, e := Of(f)
		n, _ := new(big.Float).SetMantExp(big.NewFloat(f), 1074).Int(nil)
		expect(t, "Of", d, e, number{n, -1074})
	}
	for _, f := range []float64{math.NaN(), math.Inf(1), math.Inf(-1), math.Float64frombits(0x7FF0000000000001), math.Float64frombits(0xFFFFFFFFFFFFFFFF)} {
		d, e := Of(f)
		refuse(t, "Of", d, e, api.ErrArg)
	}
	d, e := Of(math.Copysign(0, -1))
	expect(t, "Of", d, e, number{new(big.Int), 0})
}

// P3.1
func TestWhole(t *testing.T) {
	for _, n := range []int64{0, 1, -1, 2, -6, 10, 1 << 40, -1 << 62, math.MaxInt64, math.MaxInt64 - 1, math.MinInt64, math.MinInt64 + 1} {
		expect(t, "Whole", Whole(n), api.OK, number{big.NewInt(n), 0})
	}
}

// P3.1
func TestHalf(t *testing.T) {
	for _, k := range []int{0, 1, -1, 64, -60, 1024, -1075, api.MaxExp, -api.MaxExp, api.MaxExp + 1, -api.MaxExp - 1, math.MaxInt, math.MinInt} {
		d, e := Half(k)
		expect(t, "Half", d, e, number{big.NewInt(1), k})
	}
}

// P3.1
func TestSign(t *testing.T) {
	for _, d := range samples() {
		if got, want := Sign(d), value(d).n.Sign(); got != want {
			t.Errorf("%s: %d, not %d", short(d), got, want)
		}
	}
	for i, d := range wrong() {
		if got := Sign(d); got != 0 {
			t.Errorf("%d: %d", i, got)
		}
	}
}

// P3.1
func TestNegAbs(t *testing.T) {
	for _, d := range samples() {
		x := value(d)
		got, e := Neg(d)
		expect(t, "Neg", got, e, number{new(big.Int).Neg(x.n), x.e})
		got, e = Abs(d)
		expect(t, "Abs", got, e, number{new(big.Int).Abs(x.n), x.e})
	}
}

// P3.2
func TestShift(t *testing.T) {
	const far = api.MaxExp
	for _, k := range []int{0, 1, -1, 3, 64, -64, 1075, far, -far, far + 1, -far - 1, 2 * far, -2 * far, 2*far + 1, -3 * far, 1 << 20, -1 << 20, 1<<32 - 1, -1 << 32, math.MaxInt, math.MinInt, math.MaxInt - far, math.MinInt + far} {
		near := min(max(k, -1<<30), 1<<30) // so that the sum of exponents does not wrap round here
		for _, d := range samples() {
			x := value(d)
			got, e := Shift(d, k)
			expect(t, "Shift", got, e, number{x.n, x.e + near})
		}
	}
}

// P3.1: as it is written, not by its number.
func TestSame(t *testing.T) {
	one := api.Dyad{M: []uint64{1}}
	for i, x := range []struct {
		a, b api.Dyad
		want bool
	}{
		{api.Dyad{}, api.Dyad{M: []uint64{}}, true},
		{api.Dyad{}, api.Dyad{M: []uint64{0}}, false},
		{api.Dyad{}, api.Dyad{Neg: true}, false},
		{api.Dyad{}, api.Dyad{E: 1}, false},
		{one, api.Dyad{M: []uint64{1}}, true},
		{one, api.Dyad{M: []uint64{1, 0}}, false},
		{one, api.Dyad{M: []uint64{2}, E: -1}, false},
		{one, api.Dyad{Neg: true, M: []uint64{1}}, false},
		{one, api.Dyad{M: []uint64{1}, E: 1}, false},
		{api.Dyad{M: []uint64{1, 2, 3}, E: -5}, api.Dyad{M: []uint64{1, 2, 3}, E: -5}, true},
		{api.Dyad{M: []uint64{1, 2, 3}, E: -5}, api.Dyad{M: []uint64{1, 4, 3}, E: -5}, false},
		{api.Dyad{M: []uint64{1, 2, 3}, E: -5}, api.Dyad{M: []uint64{1, 2}, E: -5}, false},
		{api.Dyad{M: one.M, E: math.MaxInt}, api.Dyad{M: one.M, E: math.MaxInt}, true},
	} {
		if Same(x.a, x.b) != x.want || Same(x.b, x.a) != x.want {
			t.Errorf("%d: not %v", i, x.want)
		}
	}
}

// A dyad that may not be is refused by each call that takes one.
func TestWrongOnes(t *testing.T) {
	for name, call := range map[string]func(d api.Dyad) (api.Dyad, api.Errno){
		"Norm":  Norm,
		"Neg":   Neg,
		"Abs":   Abs,
		"Shift": func(d api.Dyad) (api.Dyad, api.Errno) { return Shift(d, -1) },
		"Sum":   func(d api.Dyad) (api.Dyad, api.Errno) { return Sum(d) },
		"Float": func(d api.Dyad) (api.Dyad, api.Errno) { f, e := Float(d); return api.Dyad{E: int(f)}, e },
		"Text":  func(d api.Dyad) (api.Dyad, api.Errno) { s, e := Text(d); return api.Dyad{E: len(s)}, e },
	} {
		for _, d := range wrong() {
			got, e := call(d)
			refuse(t, name, got, e, api.ErrArg)
		}
	}
}
