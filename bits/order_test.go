package bits

import (
	"cmp"
	"math"
	"math/big"
	"testing"

	"plumbline/api"
)

// next is the machine's next float to the end, a zero without its sign.
func next(w uint64, end float64) uint64 {
	return math.Float64bits(math.Nextafter(math.Float64frombits(w), end) + 0)
}

// P1.4
func TestCompare(t *testing.T) {
	l := manyWords()
	for i, a := range l {
		for _, b := range []uint64{l[(i*7+3)%len(l)], a, a ^ signBit, a ^ 1, 0, minusZero, infinity, infinity | signBit} {
			if math.IsNaN(math.Float64frombits(b)) {
				continue
			}
			want := cmp.Compare(math.Float64frombits(a), math.Float64frombits(b))
			if n, e := Compare(a, b); n != want || e != api.OK {
				t.Errorf("%x, %x: %d, %v", a, b, n, e)
			}
		}
	}
	for _, a := range words() {
		for _, b := range words() {
			want := cmp.Compare(math.Float64frombits(a), math.Float64frombits(b))
			if n, e := Compare(a, b); n != want || e != api.OK {
				t.Errorf("%x, %x: %d, %v", a, b, n, e)
			}
		}
	}
}

// P1.4
func TestUpDown(t *testing.T) {
	for _, w := range manyWords() {
		if n, e := Up(w); n != next(w, math.Inf(1)) || e != api.OK {
			t.Errorf("above %x: %x, %v", w, n, e)
		}
		if n, e := Down(w); n != next(w, math.Inf(-1)) || e != api.OK {
			t.Errorf("below %x: %x, %v", w, n, e)
		}
	}
	for w, want := range map[uint64][2]uint64{
		0:                        {1, signBit | 1},
		minusZero:                {1, signBit | 1},
		1:                        {2, 0},
		signBit | 1:              {0, signBit | 2},
		hiddenBit - 1:            {hiddenBit, hiddenBit - 2},
		infinity - 1:             {infinity, infinity - 2},
		infinity:                 {infinity, infinity - 1},
		signBit | (infinity - 1): {signBit | (infinity - 2), signBit | infinity},
		signBit | infinity:       {signBit | (infinity - 1), signBit | infinity},
	} {
		up, e := Up(w)
		down, f := Down(w)
		if up != want[0] || down != want[1] || e != api.OK || f != api.OK {
			t.Errorf("%x: above %x, below %x", w, up, down)
		}
	}
}

// P1.4
func TestSteps(t *testing.T) {
	for i, x := range []struct{ a, b, want uint64 }{
		{0, 0, 0},
		{0, minusZero, 0},
		{infinity, infinity, 0},
		{0, 1, 1},
		{minusZero, 1, 1},
		{signBit | 1, 0, 1},
		{signBit | 1, 1, 2},
		{signBit | 5, signBit | 2, 3},
		{hiddenBit - 1, hiddenBit + 1, 2},
		{0, infinity, infinity},
		{infinity - 1, infinity, 1},
		{signBit | infinity, infinity, 2 * infinity},
		{signBit | (infinity - 1), infinity - 1, 2*infinity - 2},
		{Of(1), Of(2), 1 << 52},
	} {
		n, e := Steps(x.a, x.b)
		m, f := Steps(x.b, x.a)
		if n != x.want || m != x.want || e != api.OK || f != api.OK {
			t.Errorf("%d: %x, %x, not %x", i, n, m, x.want)
		}
	}
}

// P1.4: steps are those that Up goes.
func TestStepsGone(t *testing.T) {
	for _, from := range []uint64{signBit | 3, signBit | (hiddenBit + 2), signBit | (infinity - 1), hiddenBit - 2, Of(1) - 1} {
		at := from
		for want := range uint64(7) {
			if n, e := Steps(from, at); n != want || e != api.OK {
				t.Errorf("from %x to %x: %d, %v", from, at, n, e)
			}
			at, _ = Up(at)
		}
	}
}

// P1.4
func TestLog(t *testing.T) {
	for _, w := range manyWords() {
		if !finite(w) || w&^signBit == 0 {
			continue
		}
		// 'big' tells sizes as parts from 1/2 up to 1.
		want := new(big.Float).SetFloat64(math.Float64frombits(w)).MantExp(nil) - 1
		if k, e := Log(w); k != want || e != api.OK {
			t.Errorf("%x: %d, %v, not %d", w, k, e, want)
		}
	}
	for k := -1074; k <= 1023; k++ {
		w := Of(math.Ldexp(1, k))
		at, e := Log(w)
		above, f := Log(w + 1)
		if k > -1074 && (above != k || f != api.OK) || at != k || e != api.OK {
			t.Errorf("2^%d: %d, then %d", k, at, above)
		}
		if below, e := Log(w - 1); k > -1074 && (below != k-1 || e != api.OK) {
			t.Errorf("below 2^%d: %d, %v", k, below, e)
		}
	}
}

// P1.6
func TestOrderFollows(t *testing.T) {
	for _, w := range manyWords() {
		up, _ := Up(w)
		back, _ := Down(up)
		n, e := Steps(w, up)
		if w == infinity {
			if up != w || n != 0 || e != api.OK {
				t.Errorf("above Inf: %x, %d steps", up, n)
			}
			continue
		}
		if order, e := Compare(back, w); order != 0 || e != api.OK {
			t.Errorf("below what is above %x: %x", w, back)
		}
		if n != 1 || e != api.OK {
			t.Errorf("from %x to the next: %d, %v", w, n, e)
		}
	}
}
