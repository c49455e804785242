package soft_test

import (
	"math"
	"math/big"
	"testing"

	"plumbline/api"
	"plumbline/soft"
)

func expectQuot(t *testing.T, a, b api.Dyad, want float64) {
	t.Helper()
	if f, e := soft.Quot(a, b); !alike(f, want) || e != api.OK {
		t.Errorf("%s by %s: %x, %v, not %x", short(a), short(b), f, e, want)
	}
}

func expectRoot(t *testing.T, a api.Dyad, want float64) {
	t.Helper()
	if f, e := soft.Root(a); !alike(f, want) || e != api.OK {
		t.Errorf("the root of %s: %x, %v, not %x", short(a), f, e, want)
	}
}

// P4.3
func TestQuot(t *testing.T) {
	for _, a := range sizes() {
		for _, b := range sizes() {
			want := quotientOf(a, b)
			expectQuot(t, a, b, want)
			expectQuot(t, negated(a), b, -want)
			expectQuot(t, a, negated(b), -want)
			expectQuot(t, negated(a), negated(b), want)
		}
	}
}

// P4.3: 0 by what is not 0 is 0, not -0.
func TestQuotOfZero(t *testing.T) {
	for _, a := range zeros() {
		for _, b := range sizes() {
			expectQuot(t, a, b, 0)
			expectQuot(t, a, negated(b), 0)
		}
	}
}

// tieMans are sizes of 54 bits: halfway between two floats, the lower or the upper of which is even.
func tieMans() []int64 {
	return []int64{1<<53 + 1, 1<<53 + 3, 1<<54 - 1, 1<<54 - 3, 0x2AAAAAAAAAAAAB, 0x3000000000000D}
}

// P4.3: quotients just at a tie, and beside it by a bit far below, however long both are.
func TestQuotTies(t *testing.T) {
	for _, man := range tieMans() {
		tie := big.NewInt(man)
		for _, by := range []*big.Int{big.NewInt(1), big.NewInt(3), big.NewInt(12), big.NewInt(math.MaxInt64), value(odd(3)), value(ones(1000)), value(odd(2000))} {
			b := dyadOf(by, -7)
			whole := new(big.Int).Mul(tie, by)
			expectQuot(t, dyadOf(whole, -20), b, nearest(tie, -13))
			for _, up := range []uint{0, 1, 64, 1000, 2000} {
				moved := new(big.Int).Lsh(whole, up)
				above := new(big.Int).Add(moved, big.NewInt(1))
				below := new(big.Int).Sub(moved, big.NewInt(1))
				expectQuot(t, dyadOf(above, -int(up)), b, nearest(new(big.Int).Add(new(big.Int).Lsh(tie, 9), big.NewInt(1)), -2))
				expectQuot(t, dyadOf(below, -int(up)), b, nearest(new(big.Int).Sub(new(big.Int).Lsh(tie, 9), big.NewInt(1)), -2))
			}
		}
	}
}

// P4.3: ties and ends of quotients, told by hand.
func TestQuotEnds(t *testing.T) {
	one := api.Dyad{M: []uint64{1}}
	for i, x := range []struct {
		a, b api.Dyad
		want float64
	}{
		{one, api.Dyad{M: []uint64{3}}, 1.0 / 3}, {api.Dyad{M: []uint64{6}}, api.Dyad{M: []uint64{2}, E: 1}, 1.5},
		{api.Dyad{M: []uint64{0, 5}}, api.Dyad{M: []uint64{0, 2}}, 2.5},
		{api.Dyad{M: []uint64{1<<53 + 1}}, one, 1 << 53}, {api.Dyad{M: []uint64{1<<53 + 3}}, one, 1<<53 + 4},
		{api.Dyad{M: []uint64{1, 1<<53 + 1}}, api.Dyad{M: []uint64{0, 1}}, 1<<53 + 2},
		{one, api.Dyad{M: []uint64{1}, E: 1074}, least}, {one, api.Dyad{M: []uint64{1}, E: 1075}, 0},
		{one, api.Dyad{Neg: true, M: []uint64{1}, E: 1075}, minus}, {api.Dyad{M: []uint64{3}}, api.Dyad{M: []uint64{1}, E: 1075}, 2 * least},
		{api.Dyad{M: []uint64{1, 1}}, api.Dyad{M: []uint64{0, 1}, E: 1075}, least},
		{api.Dyad{M: ones(1)}, api.Dyad{M: []uint64{0, 1}, E: 1075}, 0},
		{api.Dyad{M: odd(2000)}, api.Dyad{M: []uint64{1}, E: 1999*64 + 1075}, least},
		{api.Dyad{M: ones(2000)}, api.Dyad{M: []uint64{1}, E: 2000*64 + 1075}, 0},
		{one, api.Dyad{M: []uint64{1}, E: -1023}, 0x1p1023}, {one, api.Dyad{M: []uint64{1}, E: -1024}, inf},
		{api.Dyad{Neg: true, M: []uint64{1}}, api.Dyad{M: []uint64{1}, E: -1024}, -inf},
		{api.Dyad{M: []uint64{1<<54 - 1}}, api.Dyad{M: []uint64{1}, E: -970}, inf},
		{api.Dyad{M: []uint64{1<<54 - 2}}, api.Dyad{M: []uint64{1}, E: -970}, most},
		{api.Dyad{M: []uint64{math.MaxUint64, 1<<54 - 2}}, api.Dyad{M: []uint64{1}, E: -970 + 64}, most},
		{api.Dyad{M: []uint64{1<<54 - 1}, E: 970}, api.Dyad{M: ones(1), E: -64}, inf},
		{api.Dyad{M: []uint64{1<<54 - 1}, E: 970}, api.Dyad{M: []uint64{1, 1}, E: -64}, most},
		{api.Dyad{M: []uint64{1}, E: api.MaxExp}, api.Dyad{M: []uint64{1}, E: -api.MaxExp}, inf},
		{api.Dyad{M: []uint64{1}, E: -api.MaxExp}, api.Dyad{M: []uint64{1}, E: api.MaxExp}, 0},
		{api.Dyad{Neg: true, M: []uint64{1}, E: -api.MaxExp}, api.Dyad{M: []uint64{1}, E: api.MaxExp}, minus},
		{api.Dyad{M: []uint64{1}, E: api.MaxExp}, api.Dyad{M: []uint64{3}, E: api.MaxExp}, 1.0 / 3},
		{api.Dyad{M: []uint64{5}, E: -api.MaxExp}, api.Dyad{M: []uint64{1}, E: -api.MaxExp}, 5},
		{api.Dyad{M: []uint64{2}, E: api.MaxExp}, api.Dyad{M: []uint64{1}, E: api.MaxExp}, 2},
		{api.Dyad{M: ones(mostLimbs), E: -64 * mostLimbs}, one, 1}, {one, api.Dyad{M: ones(mostLimbs), E: -64 * mostLimbs}, 1},
		{api.Dyad{M: ones(mostLimbs)}, api.Dyad{M: ones(mostLimbs)}, 1},
		{api.Dyad{M: ones(mostLimbs)}, api.Dyad{M: append(make([]uint64, mostLimbs-1), 1<<63)}, 2},
	} {
		if f, e := soft.Quot(x.a, x.b); !alike(f, x.want) || e != api.OK {
			t.Errorf("%d: %x, %v, not %x", i, f, e, x.want)
		}
	}
}

// P4.3
func TestRoot(t *testing.T) {
	for _, a := range sizes() {
		expectRoot(t, a, rootOf(a))
		if a.E == api.MaxExp { // the other one of odd and even
			a.E -= 2
		}
		a.E++
		expectRoot(t, a, rootOf(a))
	}
	for _, a := range zeros() {
		expectRoot(t, a, 0)
	}
}

// P4.3: roots just at a tie, of squares, and of what lies beside these by a bit far below.
func TestRootTies(t *testing.T) {
	for _, man := range append(tieMans(), 1<<53, 1<<53+2, 3, 5<<50) {
		root := big.NewInt(man)
		square := new(big.Int).Mul(root, root)
		for _, at := range []int{0, -2, 40, -400, 1200, -2200} {
			expectRoot(t, dyadOf(square, at), nearest(root, at/2))
			expectRoot(t, dyadOf(new(big.Int).Lsh(square, 1), at-1), nearest(root, at/2))
			for _, up := range []uint{0, 2, 63, 64, 1000, 100000} {
				moved := new(big.Int).Lsh(square, up)
				above := dyadOf(new(big.Int).Add(moved, big.NewInt(1)), at-int(up))
				below := dyadOf(new(big.Int).Sub(moved, big.NewInt(1)), at-int(up))
				expectRoot(t, above, rootOf(above))
				expectRoot(t, below, rootOf(below))
			}
		}
	}
}

// P4.3: ties and ends of roots, told by hand.
func TestRootEnds(t *testing.T) {
	for i, x := range []struct {
		a    api.Dyad
		want float64
	}{
		{api.Dyad{M: []uint64{2}}, math.Sqrt2}, {api.Dyad{M: []uint64{1}, E: 1}, math.Sqrt2}, {api.Dyad{M: []uint64{4}}, 2},
		{api.Dyad{M: []uint64{8}, E: 1}, 4}, {api.Dyad{M: []uint64{9}, E: -4}, 0.75}, {api.Dyad{M: []uint64{2}, E: -3}, 0.5},
		{api.Dyad{M: []uint64{18}, E: -1}, 3}, {api.Dyad{M: []uint64{0, 1}}, 1 << 32},
		{api.Dyad{M: []uint64{1}, E: -2148}, least}, {api.Dyad{M: []uint64{1}, E: -2149}, least}, {api.Dyad{M: []uint64{1}, E: -2150}, 0},
		{api.Dyad{M: []uint64{1, 1}, E: -2150 - 64}, least}, {api.Dyad{M: ones(1), E: -2150 - 64}, 0},
		{api.Dyad{M: odd(2000), E: -2150 - 1999*64}, least}, {api.Dyad{M: ones(2000), E: -2150 - 2000*64}, 0},
		{api.Dyad{M: []uint64{9}, E: -2150}, 2 * least},
		{api.Dyad{M: []uint64{1}, E: 2046}, 0x1p1023}, {api.Dyad{M: []uint64{1}, E: 2047}, math.Sqrt2 * 0x1p1023},
		{api.Dyad{M: []uint64{1}, E: 2048}, inf}, {api.Dyad{M: ones(2000), E: 2048 - 2000*64}, inf},
		{api.Dyad{M: []uint64{1}, E: api.MaxExp}, inf}, {api.Dyad{M: []uint64{1}, E: api.MaxExp - 1}, inf},
		{api.Dyad{M: []uint64{1}, E: -api.MaxExp}, 0}, {api.Dyad{M: []uint64{1}, E: 1 - api.MaxExp}, 0},
		{api.Dyad{M: []uint64{2}, E: api.MaxExp}, inf},
		{api.Dyad{M: ones(mostLimbs), E: -64 * mostLimbs}, 1}, {api.Dyad{M: ones(mostLimbs), E: 2 - 64*mostLimbs}, 2},
		{api.Dyad{M: ones(mostLimbs), E: 1 - 64*mostLimbs}, math.Sqrt2}, {api.Dyad{M: odd(mostLimbs), E: -64 * (mostLimbs - 1)}, 1},
	} {
		if f, e := soft.Root(x.a); !alike(f, x.want) || e != api.OK {
			t.Errorf("%d: %x, %v, not %x", i, f, e, x.want)
		}
	}
}

// P4.2, P4.3: of floats' dyads Quot and Root answer what Div and Sqrt do.
func TestDyadsOfFloats(t *testing.T) {
	l := append(edges(), anyFloats(200, 11)...)
	for i, f := range l {
		if f-f != 0 || f == 0 {
			continue
		}
		for _, g := range l[i%7:] {
			if g-g == 0 && g != 0 {
				expectQuot(t, whole(t, f), whole(t, g), f/g)
			}
		}
		if f > 0 {
			expectRoot(t, whole(t, f), math.Sqrt(f))
		}
	}
}
