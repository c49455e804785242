package dyad

import (
	"encoding/binary"
	"math"
	"math/big"
	"slices"
	"testing"

	"plumbline/api"
)

// number is n times 2^e, by the library's own whole numbers.
type number struct {
	n *big.Int
	e int
}

func value(d api.Dyad) number {
	bytes := make([]byte, 0, 8*len(d.M))
	for _, x := range slices.Backward(d.M) {
		bytes = binary.BigEndian.AppendUint64(bytes, x)
	}
	n := new(big.Int).SetBytes(bytes)
	if d.Neg {
		n.Neg(n)
	}
	return number{n, d.E}
}

// odd is the number with an odd n, or 0 and 0.
func (x number) odd() number {
	if x.n.Sign() == 0 {
		return number{new(big.Int), 0}
	}
	zeros := x.n.TrailingZeroBits()
	return number{new(big.Int).Rsh(x.n, zeros), x.e + int(zeros)} // exact: of numbers below 0, too
}

func (x number) plus(y number) number {
	at := min(x.e, y.e)
	a, b := new(big.Int).Lsh(x.n, uint(x.e-at)), new(big.Int).Lsh(y.n, uint(y.e-at))
	return number{a.Add(a, b), at}
}

func (x number) minus(y number) number {
	return x.plus(number{new(big.Int).Neg(y.n), y.e})
}

func (x number) times(y number) number {
	return number{new(big.Int).Mul(x.n, y.n), x.e + y.e}
}

func (x number) dyad() api.Dyad {
	x = x.odd()
	d := api.Dyad{Neg: x.n.Sign() < 0, E: x.e}
	bytes := x.n.FillBytes(make([]byte, (x.n.BitLen()+63)/64*8))
	for limb := range slices.Chunk(bytes, 8) {
		d.M = append(d.M, binary.BigEndian.Uint64(limb))
	}
	slices.Reverse(d.M)
	return d
}

// refused is why a number can't be answered.
func (x number) refused() api.Errno {
	if x = x.odd(); x.n.BitLen() > 64*api.MaxLimbs || x.e > api.MaxExp || x.e < -api.MaxExp {
		return api.ErrLong
	}
	return api.OK
}

// apart tells if the places of two are too far apart to be brought together.
func apart(a, b number) bool {
	a, b = a.odd(), b.odd()
	off := a.e - b.e
	return a.n.Sign() != 0 && b.n.Sign() != 0 && (off > 64*api.MaxLimbs || off < -64*api.MaxLimbs)
}

// expect wants the answer to be the number, normal, or to be refused, if it is too great.
func expect(t *testing.T, call string, got api.Dyad, e api.Errno, want number) {
	t.Helper()
	if f := want.refused(); f != api.OK {
		refuse(t, call, got, e, f)
		return
	}
	if e != api.OK || !same(got, want.dyad()) {
		t.Errorf("%s: %s, %v, not %s", call, short(got), e, short(want.dyad()))
	}
}

func refuse(t *testing.T, call string, got api.Dyad, e, want api.Errno) {
	t.Helper()
	if e != want || got.Neg || len(got.M) != 0 || got.E != 0 {
		t.Errorf("%s: %s, %v, not %v", call, short(got), e, want)
	}
}

func same(a, b api.Dyad) bool {
	return a.Neg == b.Neg && a.E == b.E && slices.Equal(a.M, b.M)
}

// short is a dyad's text, cut off if it is long.
func short(d api.Dyad) string {
	x := value(d)
	s := x.n.Text(16)
	if len(s) > 60 {
		s = s[:60] + ".."
	}
	return s + " by 2^" + big.NewInt(int64(x.e)).String()
}

// stream answers words by a rule that is not to be seen in them.
func stream(seed uint64) func() uint64 {
	return func() uint64 {
		seed = seed*6364136223846793005 + 1442695040888963407
		return (seed ^ seed>>29) * 0x9E3779B97F4A7C15
	}
}

func ones(n int) []uint64 {
	return slices.Repeat([]uint64{math.MaxUint64}, n)
}

// top is the highest bit of n limbs, alone.
func top(n int) []uint64 {
	return append(make([]uint64, n-1), 1<<63)
}

// zeros are the number 0, in each of its forms.
func zeros() []api.Dyad {
	return []api.Dyad{
		{}, {M: []uint64{}}, {Neg: true}, {M: []uint64{0}}, {Neg: true, M: make([]uint64, 3)}, {E: 7}, {Neg: true, M: []uint64{0, 0}, E: -9},
		{E: api.MaxExp}, {Neg: true, E: -api.MaxExp}, {M: make([]uint64, api.MaxLimbs+1), E: 1},
	}
}

// sizes are numbers that are not 0, of few limbs and of as many as may be, some of them not normal, at places up to both ends.
func sizes() []api.Dyad {
	const far, most = api.MaxExp, api.MaxLimbs
	l := []api.Dyad{
		{M: []uint64{1}}, {M: []uint64{3}}, {M: []uint64{2}}, {M: []uint64{6, 0}, E: 5}, {M: []uint64{0, 1}}, {M: []uint64{0, 12, 0}, E: -67},
		{M: []uint64{math.MaxUint64}}, {M: []uint64{math.MaxUint64}, E: 1}, {M: []uint64{1<<63 + 1}}, {M: []uint64{1 << 63}, E: -63}, {M: []uint64{1, 1}, E: -1},
		{M: []uint64{1 << 52}, E: -52}, {M: []uint64{1<<53 - 1}, E: 971}, {M: []uint64{1}, E: -1074}, {M: []uint64{5, 0, 7}, E: -100},
		{M: []uint64{1}, E: far}, {M: []uint64{1}, E: -far}, {M: []uint64{2}, E: far}, {M: []uint64{2}, E: -far}, {M: []uint64{1}, E: far - 1}, {M: []uint64{1}, E: 1 - far},
		{M: []uint64{3}, E: far}, {M: []uint64{3}, E: -far}, {M: []uint64{1}, E: far / 2}, {M: []uint64{1}, E: -far / 2}, {M: []uint64{1}, E: -far/2 - 1},
		{M: ones(most)}, {M: ones(most), E: 1}, {M: ones(most), E: far}, {M: ones(most), E: -far}, {M: append(ones(most), 0, 0), E: -1},
		{M: top(most)}, {M: top(most), E: 1}, {M: top(most), E: -far}, {M: top(most), E: far}, {M: top(most), E: 1 - far},
		{M: append([]uint64{1}, ones(most-1)...)}, {M: append([]uint64{math.MaxUint64 - 1}, ones(most-1)...)}, {M: append([]uint64{1}, top(most-1)...)},
		{M: ones(most / 2)}, {M: ones(most/2 + 1), E: -64}, {M: append(make([]uint64, most/2), 5)}, {M: top(most - 1), E: 3},
	}
	next := stream(1)
	for n := range 12 {
		m := make([]uint64, n%4+1)
		for i := range m {
			m[i] = next()
		}
		m[n%4] |= 1
		l = append(l, api.Dyad{M: m, E: int(next()%400) - 200})
	}
	return l
}

// samples are dyads that may be, below and above 0.
func samples() []api.Dyad {
	l := zeros()
	for _, d := range sizes() {
		l = append(l, d, api.Dyad{Neg: true, M: d.M, E: d.E})
	}
	return l
}

// wrong are dyads that may not be.
func wrong() []api.Dyad {
	one := []uint64{1}
	return []api.Dyad{
		{M: one, E: api.MaxExp + 1}, {M: one, E: -api.MaxExp - 1}, {M: []uint64{2}, E: -api.MaxExp - 1}, {E: api.MaxExp + 1}, {E: -api.MaxExp - 1},
		{M: one, E: math.MaxInt}, {M: one, E: math.MinInt}, {M: []uint64{0, 1 << 63}, E: math.MinInt}, {Neg: true, E: math.MaxInt},
		{M: ones(api.MaxLimbs + 1)}, {M: append(make([]uint64, api.MaxLimbs), 1)}, {Neg: true, M: append(make([]uint64, api.MaxLimbs+5), 1, 0), E: -3},
	}
}

// floats are finite ones, up to both ends, and at the edges of their classes.
func floats() []float64 {
	l := []float64{0, 0.1, 0.5, 1, 1.5, 2, 3, 10, 1e300, 1e-300, 12345.678, math.Pi, math.MaxFloat64, math.SmallestNonzeroFloat64, 0x1p-1022, 0x1p-1022 - 0x1p-1074, 0x1p-537, 0x1p-538, 0x1p1023, 0x1p-53, 1 + 0x1p-52, 1 - 0x1p-53, 0x1p53, 0x1p53 - 1, 0x1p511 + 0x1p460}
	next := stream(2)
	for range 60 {
		if f := math.Float64frombits(next() &^ (1 << 63)); f <= math.MaxFloat64 {
			l = append(l, f)
		}
		l = append(l, 1+float64(next()>>12)*0x1p-52)
	}
	for _, f := range l {
		l = append(l, -f)
	}
	return l
}
