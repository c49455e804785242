package bits

import (
	"math"
	"testing"

	"plumbline/api"
)

const minusZero = signBit

// sizes are the words without a sign at which something changes, and some between.
func sizes() []uint64 {
	return []uint64{
		0, 1, 2, 3, 1 << 51, hiddenBit - 2, hiddenBit - 1,
		hiddenBit, hiddenBit + 1, 2*hiddenBit - 1, 2 * hiddenBit, 54 * hiddenBit,
		0x3FB999999999999A, 0x3FEFFFFFFFFFFFFF, 0x3FF0000000000000, 0x3FF0000000000001, 0x4008000000000000, 0x7FE0000000000000,
		infinity - 2, infinity - 1, infinity,
	}
}

// words are those sizes with both signs; none is a NaN.
func words() []uint64 {
	var l []uint64
	for _, w := range sizes() {
		l = append(l, w, w|signBit)
	}
	return l
}

// manyWords are these words, and a row of others without a rule to be seen; none is a NaN.
func manyWords() []uint64 {
	l := words()
	for w := uint64(1); len(l) < 4000; w = w*6364136223846793005 + 1442695040888963407 {
		x := w ^ w>>29
		for _, y := range []uint64{x, x &^ (topField << fractionSize)} {
			if !math.IsNaN(math.Float64frombits(y)) {
				l = append(l, y)
			}
		}
	}
	return l
}

func nans() []uint64 {
	return []uint64{infinity + 1, infinity + 2, nan - 1, nan, nan + 1, signBit - 1, signBit | infinity + 1, signBit | nan, math.MaxUint64}
}

func finite(w uint64) bool { return w&^signBit < infinity }

// P1.1
func TestClass(t *testing.T) {
	for _, x := range []struct {
		least, greatest uint64
		class           api.Class
	}{
		{0, 0, api.ClassZero},
		{1, hiddenBit - 1, api.ClassSub},
		{hiddenBit, infinity - 1, api.ClassNormal},
		{infinity, infinity, api.ClassInf},
		{infinity + 1, signBit - 1, api.ClassNaN},
	} {
		for _, w := range []uint64{x.least, x.greatest, x.least + (x.greatest-x.least)/3} {
			for _, signed := range []uint64{w, w | signBit} {
				if c := Class(signed); c != x.class {
					t.Errorf("%x: class %d, not %d", signed, c, x.class)
				}
			}
		}
	}
	if api.ClassZero != 1 || api.ClassNaN != 5 {
		t.Error("the classes' numbers")
	}
}

// P1.1
func TestOfFloatNegate(t *testing.T) {
	for _, w := range manyWords() {
		if f := math.Float64frombits(w); math.Float64bits(Float(w)) != w || Of(f) != w || Of(Float(w)) != w {
			t.Errorf("%x: there and back %x, %x", w, math.Float64bits(Float(w)), Of(f))
		}
		if n := Negate(w); n != w^signBit || Negate(n) != w {
			t.Errorf("%x: turned %x", w, n)
		}
	}
}

// P1.1, P1.3
func TestNaNsAreOne(t *testing.T) {
	for _, w := range nans() {
		if Class(w) != api.ClassNaN || !math.IsNaN(Float(w)) {
			t.Errorf("%x: class %d, float %v", w, Class(w), Float(w))
		}
		if of := Of(math.Float64frombits(w)); of != 0x7FF8000000000000 {
			t.Errorf("%x: of %x", w, of)
		}
		if n := Negate(w); n != 0x7FF8000000000000 {
			t.Errorf("%x: turned %x", w, n)
		}
		for _, k := range []int{0, 1, -1, math.MaxInt, math.MinInt} {
			if s := Scale(w, k); s != 0x7FF8000000000000 {
				t.Errorf("%x: times 2^%d %x", w, k, s)
			}
		}
	}
}

// P0.3, P0.8, P0.9: what a NaN, or what is not finite, is refused by, and all else that is answered then.
func TestRefused(t *testing.T) {
	for _, w := range nans() {
		for _, o := range append(words(), nan, w) {
			if n, e := Compare(w, o); n != 0 || e != api.ErrArg {
				t.Errorf("Compare(%x, %x): %d, %v", w, o, n, e)
			}
			if n, e := Compare(o, w); n != 0 || e != api.ErrArg {
				t.Errorf("Compare(%x, %x): %d, %v", o, w, n, e)
			}
			if n, e := Steps(w, o); n != 0 || e != api.ErrArg {
				t.Errorf("Steps(%x, %x): %d, %v", w, o, n, e)
			}
			if n, e := Steps(o, w); n != 0 || e != api.ErrArg {
				t.Errorf("Steps(%x, %x): %d, %v", o, w, n, e)
			}
		}
		if n, e := Up(w); n != 0 || e != api.ErrArg {
			t.Errorf("Up(%x): %x, %v", w, n, e)
		}
		if n, e := Down(w); n != 0 || e != api.ErrArg {
			t.Errorf("Down(%x): %x, %v", w, n, e)
		}
	}
	for _, w := range append(nans(), infinity, infinity|signBit) {
		if p, e := Parts(w); p != (api.Parts{}) || e != api.ErrArg {
			t.Errorf("Parts(%x): %v, %v", w, p, e)
		}
	}
	for _, w := range append(nans(), infinity, infinity|signBit, 0, minusZero) {
		if k, e := Log(w); k != 0 || e != api.ErrArg {
			t.Errorf("Log(%x): %d, %v", w, k, e)
		}
	}
}
