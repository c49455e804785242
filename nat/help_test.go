package nat

import (
	"math"
	"math/big"
	"slices"
	"testing"

	"plumbline/api"
)

// value is the list's number, by the library's own whole numbers.
func value(a []uint64) *big.Int {
	n := new(big.Int)
	for _, x := range slices.Backward(a) {
		n.Lsh(n, 64).Or(n, new(big.Int).SetUint64(x))
	}
	return n
}

// limbsOf is the number's list, normal.
func limbsOf(n *big.Int) []uint64 {
	var a []uint64
	low := new(big.Int).SetUint64(math.MaxUint64)
	for n = new(big.Int).Set(n); n.Sign() > 0; n.Rsh(n, 64) {
		a = append(a, new(big.Int).And(n, low).Uint64())
	}
	return a
}

func expect(t *testing.T, call string, got []uint64, e api.Errno, want *big.Int) {
	t.Helper()
	if e != api.OK {
		t.Errorf("%s: %v", call, e)
	}
	if len(got) > 0 && got[len(got)-1] == 0 {
		t.Errorf("%s: not normal", call)
	}
	if value(got).Cmp(want) != 0 {
		t.Errorf("%s: %s, not %s", call, short(value(got)), short(want))
	}
}

// short is the number to the base 16, cut off if it is long.
func short(n *big.Int) string {
	if s := n.Text(16); len(s) > 200 {
		return s[:200] + ".."
	}
	return n.Text(16)
}

func refuse(t *testing.T, call string, got []uint64, e, want api.Errno) {
	t.Helper()
	if e != want || len(got) != 0 {
		t.Errorf("%s: %d limbs, %v, not %v", call, len(got), e, want)
	}
}

// edgeLimbs are limbs at which a carry, a borrow or an estimate turns.
func edgeLimbs() []uint64 {
	return []uint64{0, 1, 1<<63 - 1, 1 << 63, math.MaxUint64 - 1, math.MaxUint64}
}

// stream answers limbs, some of them at the edges, by a rule that is not to be seen in them.
func stream(seed uint64) func() uint64 {
	return func() uint64 {
		seed = seed*6364136223846793005 + 1442695040888963407
		x := seed ^ seed>>29
		if x>>32&3 == 0 {
			return edgeLimbs()[x>>40%6]
		}
		return x * 0x9E3779B97F4A7C15
	}
}

// someOf answers a list of n limbs; its highest ones may be noughts.
func someOf(n int, next func() uint64) []uint64 {
	a := make([]uint64, n)
	for i := range a {
		a[i] = next()
	}
	return a
}

// samples are numbers of a few limbs, some of them not normal.
func samples() [][]uint64 {
	l := [][]uint64{
		nil, {}, {0}, {0, 0, 0}, make([]uint64, api.MaxLimbs+1),
		{1}, {1, 0}, {2, 0, 0, 0}, {10}, {1e19}, {1e19 - 1}, {0, 1}, {0, 0, 1}, {0, 0, 1, 0}, {5, 0, 7},
		{1 << 63}, {0, 1 << 63}, ones(1), ones(2), ones(3), ones(7), append(ones(2), 0, 0),
	}
	next := stream(1)
	for n := range 9 {
		for range 4 {
			l = append(l, someOf(n, next))
		}
	}
	return l
}

// ones is the greatest number of n limbs.
func ones(n int) []uint64 {
	return slices.Repeat([]uint64{math.MaxUint64}, n)
}

// tooLong is the least number that has more than MaxLimbs limbs.
func tooLong() []uint64 {
	return append(make([]uint64, api.MaxLimbs), 1)
}

// justLong has more than MaxLimbs entries, but not normal: it may be.
func justLong() []uint64 {
	return append(ones(api.MaxLimbs), 0, 0)
}
