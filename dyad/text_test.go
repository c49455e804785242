package dyad

import (
	"math"
	"math/big"
	"strconv"
	"testing"

	"plumbline/api"
)

// nearest is the float that the library rounds the number to; 0 of 0.
func nearest(x number) float64 {
	if x.n.Sign() == 0 {
		return 0
	}
	f := new(big.Float).SetPrec(uint(x.n.BitLen())).SetInt(x.n)
	got, _ := f.SetMantExp(f, x.e).Float64()
	return got
}

func expectFloat(t *testing.T, d api.Dyad, want float64) {
	t.Helper()
	if f, e := Float(d); math.Float64bits(f) != math.Float64bits(want) || e != api.OK {
		t.Errorf("%s: %x, %v, not %x", short(d), f, e, want)
	}
}

// P3.4
func TestFloat(t *testing.T) {
	for _, d := range samples() {
		expectFloat(t, d, nearest(value(d)))
	}
}

// P3.4: at ties, beside them, and where a number becomes a zero or an infinity, with more bits behind than Man has.
func TestFloatEdges(t *testing.T) {
	for _, f := range floats() {
		d, _ := Of(f)
		expectFloat(t, d, f+0)
		up := math.Nextafter(f, math.Inf(1))
		if math.IsInf(up, 0) {
			continue
		}
		next, _ := Of(up)
		both, _ := Add(d, next)
		middle, _ := Shift(both, -1)
		for _, k := range []int{-1080, -1090, -1200, -9000, 0} {
			off, _ := Half(k)
			if k == 0 {
				off = api.Dyad{}
			}
			above, _ := Add(middle, off)
			below, _ := Sub(middle, off)
			for _, x := range []api.Dyad{above, below} {
				expectFloat(t, x, nearest(value(x)))
			}
		}
	}
}

// P3.4
func TestFloatEnds(t *testing.T) {
	least, none, most := math.SmallestNonzeroFloat64, math.Copysign(0, -1), math.MaxFloat64
	for _, x := range []struct {
		d    api.Dyad
		want float64
	}{
		{api.Dyad{M: []uint64{1}, E: -1075}, 0},
		{api.Dyad{Neg: true, M: []uint64{1}, E: -1075}, none},
		{api.Dyad{M: []uint64{1, 1}, E: -1075 - 64}, least},
		{api.Dyad{M: []uint64{1, 0, 1}, E: -1075 - 128}, least},
		{api.Dyad{Neg: true, M: []uint64{1, 0, 1}, E: -1075 - 128}, -least},
		{api.Dyad{M: ones(3), E: -1075 - 192}, 0},
		{api.Dyad{Neg: true, M: ones(3), E: -1075 - 192}, none},
		{api.Dyad{M: []uint64{3}, E: -1075}, 2 * least},
		{api.Dyad{M: []uint64{1}, E: -api.MaxExp}, 0},
		{api.Dyad{Neg: true, M: []uint64{1}, E: -api.MaxExp}, none},
		{api.Dyad{M: []uint64{1}, E: api.MaxExp}, math.Inf(1)},
		{api.Dyad{Neg: true, M: []uint64{2}, E: api.MaxExp}, math.Inf(-1)},
		{api.Dyad{M: ones(api.MaxLimbs), E: -api.MaxExp}, 1},
		{api.Dyad{Neg: true, M: top(api.MaxLimbs), E: -api.MaxExp}, -0.5},
		{api.Dyad{M: []uint64{1<<54 - 1}, E: 970}, math.Inf(1)},
		{api.Dyad{M: []uint64{1<<54 - 1}, E: 969}, 0x1p1023},
		{api.Dyad{M: []uint64{0, 1<<54 - 2}, E: 970 - 64}, most},
		{api.Dyad{M: []uint64{math.MaxUint64, 1<<54 - 2}, E: 970 - 64}, most},
		{api.Dyad{Neg: true, M: []uint64{math.MaxUint64, 1<<54 - 2}, E: 970 - 64}, -most},
		{api.Dyad{Neg: true, M: []uint64{0, 1<<54 - 1}, E: 970 - 64}, math.Inf(-1)},
		{api.Dyad{Neg: true}, 0},
		{api.Dyad{Neg: true, M: []uint64{0, 0}, E: -7}, 0},
		{api.Dyad{M: []uint64{1<<53 + 1}}, 1 << 53},
		{api.Dyad{M: []uint64{1<<53 + 3}}, 1<<53 + 4},
		{api.Dyad{M: []uint64{1, 1<<53 + 1}, E: -64}, 1<<53 + 2},
		{api.Dyad{M: []uint64{math.MaxUint64, 1 << 53}, E: -64}, 1 << 53},
	} {
		expectFloat(t, x.d, x.want)
	}
}

// P3.5: Float of Of is the float; of sums and products it is what the machine tells.
func TestMachine(t *testing.T) {
	for i, f := range floats() {
		x, _ := Of(f)
		for _, g := range floats()[i%5:] {
			y, _ := Of(g)
			sum, e := Add(x, y)
			if f+g != 0 {
				expectFloat(t, sum, f+g)
			}
			product, h := Mul(x, y)
			if f*g != 0 {
				expectFloat(t, product, f*g)
			}
			if e != api.OK || h != api.OK {
				t.Fatal(f, g, e, h)
			}
		}
	}
	expectFloat(t, api.Dyad{}, 0)
}

// P3.4
func TestText(t *testing.T) {
	for _, d := range samples() {
		x := value(d).odd()
		want := x.n.String()
		if x.e != 0 {
			want += "p" + strconv.Itoa(x.e)
		}
		if got, e := Text(d); got != want || e != api.OK {
			t.Errorf("%s: %d characters, %v, not %d", short(d), len(got), e, len(want))
		}
	}
}

// P3.4
func TestTextEdges(t *testing.T) {
	for _, x := range []struct {
		d    api.Dyad
		want string
	}{
		{api.Dyad{Neg: true, M: []uint64{0}, E: 5}, "0"},
		{api.Dyad{M: []uint64{1}}, "1"},
		{api.Dyad{Neg: true, M: []uint64{1}}, "-1"},
		{api.Dyad{M: []uint64{6}}, "3p1"},
		{api.Dyad{Neg: true, M: []uint64{6, 0}, E: -1}, "-3"},
		{api.Dyad{Neg: true, M: []uint64{6}, E: -api.MaxExp}, "-3p-262143"},
		{api.Dyad{M: []uint64{1}, E: api.MaxExp}, "1p262144"},
		{api.Dyad{M: []uint64{0, 1}}, "1p64"},
		{api.Dyad{M: []uint64{1, 1}, E: 10}, "18446744073709551617p10"},
		{api.Dyad{M: []uint64{2}, E: api.MaxExp}, "1p262145"},
	} {
		if got, e := Text(x.d); got != x.want || e != api.OK {
			t.Errorf("%s: %s, %v, not %s", short(x.d), got, e, x.want)
		}
	}
}
