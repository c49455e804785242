package soft_test

import (
	"encoding/binary"
	"math"
	"math/big"
	"slices"
	"testing"

	"plumbline/api"
)

const (
	least     = math.SmallestNonzeroFloat64
	most      = math.MaxFloat64
	normal    = 0x1p-1022 // the least normal one
	greatSub  = normal - least
	mostLimbs = 2048
)

var (
	inf   = math.Inf(1)
	nan   = math.NaN()
	minus = math.Copysign(0, -1) // -0
)

// alike tells if both are the same float, bit by bit, NaNs being one.
func alike(x, y float64) bool {
	return math.Float64bits(x) == math.Float64bits(y) || x != x && y != y
}

func expect(t *testing.T, call string, got, want float64, handed ...float64) {
	t.Helper()
	if !alike(got, want) {
		t.Errorf("%s%x: %x, not %x", call, handed, got, want)
	}
}

// stream answers words by a rule that is not to be seen in them.
func stream(seed uint64) func() uint64 {
	return func() uint64 {
		seed = seed*6364136223846793005 + 1442695040888963407
		return (seed ^ seed>>29) * 0x9E3779B97F4A7C15
	}
}

// edges are floats at which something changes, of all classes, with both signs.
func edges() []float64 {
	l := []float64{
		0, least, 2 * least, 3 * least, 5 * least, 0x1p-1050, 0x1p-1023, greatSub - least, greatSub,
		normal, normal + least, 2*normal - least, 2 * normal, 0x1p-969, 0x1p-538, 0x1p-537, 3 * 0x1p-538, 1e-200,
		0x1p-106, 0x1p-54, 0x1p-53, 3 * 0x1p-54, 0x1p-52, 0.1, 0.2, 1.0 / 3, 0.5, 1 - 0x1p-53, 1, 1 + 0x1p-52, 1 + 0x1p-51, 1.5, math.Sqrt2, 2 - 0x1p-52, 2, 3, math.Pi, 7, 10,
		1<<53 - 1, 1 << 53, 1<<53 + 2, 1e200, 0x1p511, 0x1p512 - 0x1p459, 0x1p512, 0x1p970, 0x1p971, 0x1p1023, most - 0x1p971, most,
		inf, nan,
	}
	for _, f := range l {
		l = append(l, -f)
	}
	return l
}

// anyFloats are n floats of any bits, a part of them below the normal ones.
func anyFloats(n int, seed uint64) []float64 {
	next := stream(seed)
	l := make([]float64, n)
	for i := range l {
		w := next()
		if i%8 == 0 {
			w &^= 0x7FF << 52
		}
		l[i] = math.Float64frombits(w)
	}
	return l
}

// near answers floats with exponents from low to high, either sign, some of them with few bits.
func near(low, high int, next func() uint64) func() float64 {
	return func() float64 {
		w := next()
		man := 1 + float64(next()>>12)*0x1p-52
		if w&7 == 0 {
			man = 1 + float64(next()>>60)*0x1p-4
		}
		if w&8 != 0 {
			man = -man
		}
		return math.Ldexp(man, low+int(w>>8%uint64(high-low+1)))
	}
}

// value is the list's whole number, by the library's own.
func value(m []uint64) *big.Int {
	bytes := make([]byte, 0, 8*len(m))
	for _, x := range slices.Backward(m) {
		bytes = binary.BigEndian.AppendUint64(bytes, x)
	}
	return new(big.Int).SetBytes(bytes)
}

// dyadOf is the number n times 2^at; n may be even.
func dyadOf(n *big.Int, at int) api.Dyad {
	d := api.Dyad{Neg: n.Sign() < 0, E: at}
	bytes := n.FillBytes(make([]byte, (n.BitLen()+63)/64*8))
	for limb := range slices.Chunk(bytes, 8) {
		d.M = append(d.M, binary.BigEndian.Uint64(limb))
	}
	slices.Reverse(d.M)
	return d
}

// whole is the float's number; exact.
func whole(t *testing.T, f float64) api.Dyad {
	t.Helper()
	man, exp := math.Frexp(f)
	n, accuracy := big.NewFloat(man * 0x1p53).Int(nil)
	if accuracy != big.Exact {
		t.Fatal(f)
	}
	return dyadOf(n, exp-53)
}

// nearest is the float that the library rounds n times 2^at to; a number with more than n is told by a lowest bit far below.
func nearest(n *big.Int, at int) float64 {
	f := new(big.Float).SetPrec(uint(max(n.BitLen(), 1))).SetInt(n)
	x, _ := f.SetMantExp(f, at).Float64()
	return x
}

// sticky is n with two bits more behind, the lower of which tells if there is a rest.
func sticky(n, rest *big.Int) *big.Int {
	n = new(big.Int).Lsh(n, 2)
	if rest.Sign() != 0 {
		n.SetBit(n, 0, 1)
	}
	return n
}

// quotientOf is a by b, rounded; neither is 0.
func quotientOf(a, b api.Dyad) float64 {
	x, y := value(a.M), value(b.M)
	more := max(y.BitLen()-x.BitLen(), 0) + 200
	q, r := new(big.Int).QuoRem(x.Lsh(x, uint(more)), y, new(big.Int))
	f := nearest(sticky(q, r), a.E-b.E-more-2)
	if a.Neg != b.Neg {
		return -f
	}
	return f
}

// rootOf is a's root, rounded; a is above 0.
func rootOf(a api.Dyad) float64 {
	more := 400
	if a.E&1 != 0 {
		more++
	}
	x := value(a.M)
	x.Lsh(x, uint(more))
	root := new(big.Int).Sqrt(x)
	rest := x.Sub(x, new(big.Int).Mul(root, root))
	return nearest(sticky(root, rest), (a.E-more)/2-2)
}

func ones(n int) []uint64 {
	return slices.Repeat([]uint64{math.MaxUint64}, n)
}

// odd is the least odd number of n limbs, two at least.
func odd(n int) []uint64 {
	m := make([]uint64, n)
	m[0], m[n-1] = 1, 1
	return m
}

// zeros are the number 0, in each of its forms.
func zeros() []api.Dyad {
	return []api.Dyad{
		{}, {M: []uint64{}}, {Neg: true}, {M: []uint64{0}}, {Neg: true, M: make([]uint64, 3)}, {E: 7}, {Neg: true, M: []uint64{0, 0}, E: -9},
		{E: api.MaxExp}, {Neg: true, E: -api.MaxExp}, {M: make([]uint64, mostLimbs+1)}, {Neg: true, M: make([]uint64, api.MaxLimbs+1), E: 1},
	}
}

// sizes are dyads above 0 that may be divided, with even sizes and odd ones, at places up to both ends.
func sizes() []api.Dyad {
	const far = api.MaxExp
	l := []api.Dyad{
		{M: []uint64{1}}, {M: []uint64{3}}, {M: []uint64{2}}, {M: []uint64{6, 0}, E: 5}, {M: []uint64{0, 1}}, {M: []uint64{0, 12, 0}, E: -67},
		{M: []uint64{7}, E: 1}, {M: []uint64{8}, E: -3}, {M: []uint64{49}, E: -1}, {M: []uint64{100}}, {M: []uint64{1<<53 + 1}},
		{M: []uint64{1<<54 - 1}, E: 970},
		{M: []uint64{math.MaxUint64}}, {M: []uint64{math.MaxUint64}, E: 1}, {M: []uint64{1 << 63}, E: -63}, {M: []uint64{1, 1}, E: -1},
		{M: []uint64{5, 0, 7}, E: -1100},
		{M: []uint64{1}, E: far}, {M: []uint64{1}, E: far - 1}, {M: []uint64{1}, E: -far}, {M: []uint64{1}, E: 1 - far}, {M: []uint64{3}, E: far},
		{M: []uint64{3}, E: 1 - far},
		{M: []uint64{1}, E: -1074}, {M: []uint64{1}, E: -2149}, {M: []uint64{1}, E: 2047}, {M: []uint64{1}, E: 2048},
		{M: ones(mostLimbs)}, {M: ones(mostLimbs), E: -64 * mostLimbs}, {M: ones(mostLimbs), E: 1 - 64*mostLimbs}, {M: ones(mostLimbs), E: far},
		{M: ones(mostLimbs), E: -far},
		{M: odd(mostLimbs)}, {M: odd(mostLimbs), E: 1}, {M: append(odd(mostLimbs), 0, 0), E: -64 * (mostLimbs - 1)},
		{M: append(make([]uint64, mostLimbs-1), 1<<63), E: 3 - 64*mostLimbs},
		{M: ones(700), E: -64 * 700}, {M: odd(701), E: -33},
	}
	next := stream(1)
	for n := range 16 {
		m := make([]uint64, n%5+1)
		for i := range m {
			m[i] = next() << (n % 3)
		}
		l = append(l, api.Dyad{M: m, E: int(next()%2600) - 1300})
	}
	return l
}

// wrong are dyads that may not be.
func wrong() []api.Dyad {
	one := []uint64{1}
	return []api.Dyad{
		{M: one, E: api.MaxExp + 1}, {M: one, E: -api.MaxExp - 1}, {M: []uint64{2}, E: -api.MaxExp - 1}, {E: api.MaxExp + 1},
		{E: -api.MaxExp - 1}, {M: one, E: math.MaxInt}, {M: one, E: math.MinInt},
		{Neg: true, E: math.MaxInt}, {M: ones(api.MaxLimbs + 1)}, {M: append(make([]uint64, api.MaxLimbs), 1)},
		{Neg: true, M: append(make([]uint64, api.MaxLimbs+5), 1, 0), E: -3},
	}
}

// long are dyads that may be, but have more limbs than are divided.
func long() []api.Dyad {
	return []api.Dyad{
		{M: odd(mostLimbs + 1)}, {M: ones(mostLimbs + 1), E: -64 * mostLimbs}, {M: append(odd(mostLimbs+1), 0), E: -7}, {M: ones(3000)},
		{M: ones(api.MaxLimbs), E: -api.MaxExp}, {M: append(ones(api.MaxLimbs), 0)},
		// Limbs are counted as May counts them: of M, whatever its power of 2.
		{M: append(make([]uint64, mostLimbs), 1)},
	}
}

func negated(d api.Dyad) api.Dyad {
	d.Neg = !d.Neg
	return d
}

// short is a dyad, cut off if it is long.
func short(d api.Dyad) string {
	s := value(d.M).Text(16)
	if len(s) > 60 {
		s = s[:60] + ".."
	}
	if d.Neg {
		s = "-" + s
	}
	return s + " by 2^" + big.NewInt(int64(d.E)).String()
}
