package nat

import (
	"math"
	"math/big"
	"testing"

	"plumbline/api"
)

func checkShr(t *testing.T, a []uint64, k int) {
	t.Helper()
	b, lost, e := Shr(a, k)
	n := value(a)
	want := new(big.Int).Rsh(n, uint(min(k, 1<<20)))
	expect(t, "Shr", b, e, want)
	if left := n.Cmp(want.Lsh(want, uint(min(k, 1<<20)))) != 0; lost != left {
		t.Errorf("Shr by %d of %s: lost %v", k, short(n), lost)
	}
}

// P2.3: by 0, by whole limbs, by more than all bits, by the greatest int.
func TestShifts(t *testing.T) {
	for _, a := range samples() {
		for _, k := range []int{0, 1, 2, 7, 63, 64, 65, 127, 128, 129, 191, 192, 193, 300, 512, 576, 577, 4096} {
			b, e := Shl(a, k)
			expect(t, "Shl", b, e, new(big.Int).Lsh(value(a), uint(k)))
			checkShr(t, a, k)
		}
		bitCount := value(a).BitLen()
		for _, k := range []int{max(bitCount-1, 0), bitCount, bitCount + 1, 64 * len(a), 1 << 18, 1 << 40, math.MaxInt - 64, math.MaxInt - 1, math.MaxInt} {
			checkShr(t, a, k)
		}
	}
	for _, k := range []int{0, 1, 64, 262079, 262080, 262143, 262144, 262145, math.MaxInt} {
		checkShr(t, justLong(), k)
	}
}

// P2.3
func TestShiftsBelowZero(t *testing.T) {
	for _, a := range append(samples(), justLong()) {
		for _, k := range []int{-1, -63, -64, -65, math.MinInt + 1, math.MinInt} {
			b, e := Shl(a, k)
			refuse(t, "Shl", b, e, api.ErrArg)
			b, lost, e := Shr(a, k)
			refuse(t, "Shr", b, e, api.ErrArg)
			if lost {
				t.Errorf("Shr by %d: lost beside an error", k)
			}
			b, e = Pow2(k)
			refuse(t, "Pow2", b, e, api.ErrArg)
		}
	}
}

// P2.3: just MaxLimbs limbs are answered, one bit more is ErrLong; of 0 nothing ever is.
func TestShlLong(t *testing.T) {
	for _, x := range []struct {
		a    []uint64
		most int
	}{{[]uint64{1}, 262143}, {[]uint64{3, 0, 0}, 262142}, {ones(1), 262080}, {ones(4095), 64}, {ones(4096), 0}, {justLong(), 0}, {[]uint64{5, 7}, 262144 - 67}} {
		b, e := Shl(x.a, x.most)
		expect(t, "Shl", b, e, new(big.Int).Lsh(value(x.a), uint(x.most)))
		for _, k := range []int{x.most + 1, x.most + 64, 262144, 262145, 1 << 40, math.MaxInt - 63, math.MaxInt} {
			b, e := Shl(x.a, k)
			refuse(t, "Shl", b, e, api.ErrLong)
		}
	}
	for _, a := range [][]uint64{nil, {}, {0}, make([]uint64, api.MaxLimbs+1)} {
		for _, k := range []int{0, 1, 262143, 262144, 1 << 40, math.MaxInt} {
			b, e := Shl(a, k)
			expect(t, "Shl", b, e, new(big.Int))
		}
	}
}

// P2.3
func TestPow2(t *testing.T) {
	for _, k := range []int{0, 1, 2, 63, 64, 65, 127, 128, 262142, 262143} {
		b, e := Pow2(k)
		expect(t, "Pow2", b, e, new(big.Int).Lsh(big.NewInt(1), uint(k)))
	}
	for _, k := range []int{262144, 262145, 262208, 1 << 40, math.MaxInt} {
		b, e := Pow2(k)
		refuse(t, "Pow2", b, e, api.ErrLong)
	}
}

// P2.3
func TestBitsZeros(t *testing.T) {
	l := append(samples(), justLong(), append(make([]uint64, api.MaxLimbs-1), 1<<63))
	for k := range 200 {
		l = append(l, limbsOf(new(big.Int).Lsh(big.NewInt(1), uint(k))), limbsOf(new(big.Int).Lsh(big.NewInt(5), uint(k))))
	}
	for _, a := range l {
		if n, e := Bits(a); n != value(a).BitLen() || e != api.OK {
			t.Errorf("Bits(%s): %d, %v", short(value(a)), n, e)
		}
		if n, e := Zeros(a); n != int(value(a).TrailingZeroBits()) || e != api.OK {
			t.Errorf("Zeros(%s): %d, %v", short(value(a)), n, e)
		}
	}
}

// P2.3
func TestBit(t *testing.T) {
	for _, a := range samples() {
		n := value(a)
		for i := range 64*min(len(a), 10) + 130 {
			if Bit(a, i) != (n.Bit(i) == 1) {
				t.Errorf("%x: bit %d", a, i)
			}
		}
		for _, i := range []int{-1, -63, -64, -65, -128, math.MinInt, math.MinInt + 63, 1 << 40, math.MaxInt - 63, math.MaxInt} {
			if Bit(a, i) {
				t.Errorf("%x: bit %d", a, i)
			}
		}
	}
	if !Bit(justLong(), 262143) || Bit(justLong(), 262144) {
		t.Error("the highest bit")
	}
}

// P2.5: Shr of Shl is the number.
func TestShiftBack(t *testing.T) {
	for _, a := range samples() {
		for _, k := range []int{0, 1, 13, 63, 64, 65, 128, 1000, 200000} {
			b, e := Shl(a, k)
			c, lost, f := Shr(b, k)
			expect(t, "Shr of Shl", c, f, value(a))
			if lost || e != api.OK {
				t.Errorf("%x by %d: %v, %v", a, k, lost, e)
			}
		}
	}
}
