package bits

import (
	"math"
	"math/big"
	"testing"

	"plumbline/api"
)

// mans are the numbers that may be told with few bits, those about 53 and 54 bits, ties, and the greatest.
func mans() []uint64 {
	l := []uint64{0, 1, 2, 3, 4, 5, 6, 7, 9, 10, 1<<32 + 1, 1<<62 + 1, 3 << 62}
	for _, n := range []uint64{1 << 52, 1 << 53, 1 << 54, 1 << 55, 1 << 63} {
		for d := range uint64(9) {
			l = append(l, n+d-4)
		}
	}
	// Of 64 bits the last 11 are cut off: the half of them is 1 << 10.
	for _, n := range []uint64{1<<63 + 1<<11, 1<<63 + 1<<12, math.MaxUint64 - 1<<11 + 1} {
		for d := range uint64(3) {
			l = append(l, n+1<<10+d-1)
		}
	}
	return append(l, math.MaxUint64-1, math.MaxUint64)
}

// exps are those at which a number of any length comes to one of the ends, and some in the midst.
func exps() []int {
	l := []int{-100, -53, -1, 0, 1, 52}
	for e := -1145; e <= -1015; e++ {
		l = append(l, e)
	}
	for e := 955; e <= 1030; e++ {
		l = append(l, e)
	}
	return l
}

// farExps make of any number but 0 a zero, or an infinity.
func farExps() (low, high []int) {
	low = []int{math.MinInt, math.MinInt + 1, math.MinInt + 1074, math.MinInt32, -1 << 20, -2049, -2048, -2047, -1200, -1140}
	high = []int{1024, 1025, 2047, 2048, 2049, 1 << 20, math.MaxInt32, math.MaxInt - 1074, math.MaxInt - 63, math.MaxInt}
	return low, high
}

// number is p's number and a part of 1, times 2^Exp: exact.
func number(p api.Parts, part float64) *big.Float {
	f := new(big.Float).SetPrec(200).SetUint64(p.Man)
	f.Add(f, big.NewFloat(part))
	f.SetMantExp(f, p.Exp)
	if p.Neg {
		f.Neg(f)
	}
	return f
}

func rounded(f *big.Float) uint64 {
	r, _ := f.Float64()
	return math.Float64bits(r)
}

// each hands all numbers to f that are made of l and exps, with both signs.
func each(l []uint64, exps []int, f func(p api.Parts)) {
	for _, man := range l {
		for _, exp := range exps {
			f(api.Parts{Man: man, Exp: exp})
			f(api.Parts{Neg: true, Man: man, Exp: exp})
		}
	}
}

// P1.2
func TestParts(t *testing.T) {
	for w, want := range map[uint64]api.Parts{
		0:             {},
		minusZero:     {Neg: true},
		1:             {Man: 1, Exp: -1074},
		hiddenBit - 1: {Man: 1<<52 - 1, Exp: -1074},
		hiddenBit:     {Man: 1 << 52, Exp: -1074},
		3 * hiddenBit: {Man: 1 << 52, Exp: -1072},
		infinity - 1:  {Man: 1<<53 - 1, Exp: 971},
		Of(-1.5):      {Neg: true, Man: 3 << 51, Exp: -52},
	} {
		if p, e := Parts(w); p != want || e != api.OK {
			t.Errorf("%x: %v, %v", w, p, e)
		}
	}
	for _, w := range manyWords() {
		if p, e := Parts(w); finite(w) && (e != api.OK || p.Neg != (w >= signBit) || rounded(number(p, 0)) != w) {
			t.Errorf("%x: %v, %v", w, p, e)
		}
	}
}

// P1.2
func TestExact(t *testing.T) {
	each(mans(), exps(), func(p api.Parts) {
		f := number(p, 0)
		want, why := rounded(f), api.OK
		if !finite(want) || new(big.Float).SetFloat64(math.Float64frombits(want)).Cmp(f) != 0 {
			want, why = 0, api.ErrNone
		}
		if w, e := Exact(p); w != want || e != why {
			t.Errorf("%v: %x, %v, not %x, %v", p, w, e, want, why)
		}
	})
	low, high := farExps()
	each(mans()[1:], append(low, high...), func(p api.Parts) {
		if w, e := Exact(p); w != 0 || e != api.ErrNone {
			t.Errorf("%v: %x, %v", p, w, e)
		}
	})
}

// P1.2: the same number, told in other ways.
func TestExactShifted(t *testing.T) {
	for i, x := range []struct {
		p    api.Parts
		want uint64
	}{
		{api.Parts{Man: 1 << 63, Exp: -1137}, 1},
		{api.Parts{Man: (1<<53 - 1) << 11, Exp: 960}, infinity - 1},
		{api.Parts{Man: 1, Exp: 1023}, 2046 << 52},
		{api.Parts{Man: 1 << 63, Exp: 960}, 2046 << 52},
		{api.Parts{Neg: true, Man: 1 << 63, Exp: -63}, Of(-1)},
	} {
		if w, e := Exact(x.p); w != x.want || e != api.OK {
			t.Errorf("%d: %x, %v", i, w, e)
		}
	}
}

// P1.2, P1.3: a zero is one with any exponent.
func TestZeros(t *testing.T) {
	low, high := farExps()
	each([]uint64{0}, append(append(low, high...), -1075, -1074, 0), func(p api.Parts) {
		want := uint64(0)
		if p.Neg {
			want = minusZero
		}
		if w, e := Exact(p); w != want || e != api.OK {
			t.Errorf("Exact(%v): %x, %v", p, w, e)
		}
		if w, e := Round(p, false); w != want || e != api.OK {
			t.Errorf("Round(%v): %x, %v", p, w, e)
		}
	})
}

// P1.3
func TestRound(t *testing.T) {
	each(mans(), exps(), func(p api.Parts) {
		want := rounded(number(p, 0))
		if w, e := Round(p, false); w != want || e != api.OK {
			t.Errorf("%v: %x, %v, not %x", p, w, e, want)
		}
	})
}

// P1.3: all numbers between are rounded to one word, or the call is refused.
func TestRoundMore(t *testing.T) {
	each(mans(), exps(), func(p api.Parts) {
		w, e := Round(p, true)
		if p.Man < 1<<53 && p.Exp > -1075 {
			if w != 0 || e != api.ErrArg {
				t.Errorf("%v: %x, %v, not refused", p, w, e)
			}
			return
		}
		for _, part := range []float64{0x1p-60, 0.5, 1 - 0x1p-50} {
			if want := rounded(number(p, part)); w != want || e != api.OK {
				t.Errorf("%v and %v: %x, %v, not %x", p, part, w, e, want)
			}
		}
	})
}

// P1.3, P0.9: exponents as great and as small as an int may be.
func TestRoundFar(t *testing.T) {
	low, high := farExps()
	each(mans()[1:], low, func(p api.Parts) {
		for _, more := range []bool{false, true} {
			if w, e := Round(p, more); w&^signBit != 0 || w == minusZero != p.Neg || e != api.OK {
				t.Errorf("%v, %v: %x, %v", p, more, w, e)
			}
		}
	})
	each(mans()[1:], high, func(p api.Parts) {
		w, e := Round(p, false)
		if w&^signBit != infinity || w >= signBit != p.Neg || e != api.OK {
			t.Errorf("%v: %x, %v", p, w, e)
		}
		v, f := Round(p, true)
		if p.Man < 1<<53 && (v != 0 || f != api.ErrArg) || p.Man >= 1<<53 && (v != w || f != api.OK) {
			t.Errorf("%v, more: %x, %v", p, v, f)
		}
	})
	for _, exp := range low {
		if w, e := Round(api.Parts{Neg: true, Exp: exp}, true); w != minusZero || e != api.OK {
			t.Errorf("0 and more, %d: %x, %v", exp, w, e)
		}
	}
	for _, exp := range append(high, -1074, 0) {
		if w, e := Round(api.Parts{Exp: exp}, true); w != 0 || e != api.ErrArg {
			t.Errorf("0 and more, %d: %x, %v", exp, w, e)
		}
	}
}

// P1.3
func TestScale(t *testing.T) {
	for _, w := range manyWords() {
		p, e := Parts(w)
		for _, k := range []int{0, 1, -1, 52, -52, -53, 700, -700, 1074, -1074, 2046, -2046, 2097, 2098, -2098, -2099} {
			p := p
			p.Exp += k
			want := w
			if e == api.OK {
				want = rounded(number(p, 0))
			}
			if s := Scale(w, k); s != want {
				t.Errorf("%x times 2^%d: %x, not %x", w, k, s, want)
			}
		}
	}
}

// P1.3, P0.9: powers as great and as small as an int may be.
func TestScaleFar(t *testing.T) {
	for _, w := range words() {
		sign, size := w&signBit, w&^signBit
		for _, k := range []int{2098, 4095, 4096, 4097, 1 << 40, math.MaxInt - 971, math.MaxInt} {
			up, down := uint64(infinity), uint64(0)
			if size == 0 {
				up = 0
			}
			if size == infinity {
				down = infinity
			}
			if s := Scale(w, k); s != sign|up {
				t.Errorf("%x times 2^%d: %x", w, k, s)
			}
			if s := Scale(w, -k-1); s != sign|down {
				t.Errorf("%x times 2^%d: %x", w, -k-1, s)
			}
		}
	}
}

// P1.6
func TestPartsFollow(t *testing.T) {
	for _, w := range manyWords() {
		p, e := Parts(w)
		if !finite(w) {
			continue
		}
		x, f := Exact(p)
		r, g := Round(p, false)
		if x != w || r != w || e != api.OK || f != api.OK || g != api.OK {
			t.Errorf("%x: %x, %x", w, x, r)
		}
		for _, k := range []int{1, -1, 30, -30, 1000, -1000} {
			// Below 2^-1022 a product may be rounded up to that, the least of ClassNormal: that came to ClassSub ahead of it.
			at, e := Log(w)
			if e != api.OK || Class(w) != api.ClassNormal || at+k < -1022 || at+k > 1023 {
				continue
			}
			if s := Scale(w, k); Scale(s, -k) != w {
				t.Errorf("%x times 2^%d, and back: %x", w, k, Scale(s, -k))
			}
		}
	}
}
