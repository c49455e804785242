package nat

import (
	"math"
	"math/big"
	"testing"

	"plumbline/api"
)

func checkDiv(t *testing.T, a, b []uint64) {
	t.Helper()
	q, r, e := Div(a, b)
	quotient, rest := new(big.Int).QuoRem(value(a), value(b), new(big.Int))
	expect(t, "Div, the quotient", q, e, quotient)
	expect(t, "Div, the rest", r, e, rest)
}

// P2.2
func TestDiv(t *testing.T) {
	for _, a := range samples() {
		for _, b := range samples() {
			if value(b).Sign() > 0 {
				checkDiv(t, a, b)
			}
		}
	}
}

// P2.2
func TestDivByZero(t *testing.T) {
	for _, a := range append(samples(), justLong()) {
		for _, b := range [][]uint64{nil, {}, {0}, {0, 0, 0}, make([]uint64, api.MaxLimbs+7)} {
			q, r, e := Div(a, b)
			refuse(t, "Div", append(q, r...), e, api.ErrArg)
		}
	}
}

// P2.2: all lists of limbs at the edges: estimates that are too great by none, by one and by more, ahead of the lower limbs and behind them.
func TestDivEdges(t *testing.T) {
	l := edgeLimbs()
	for i := range 6 * 6 * 6 * 6 {
		a := []uint64{l[i%6], l[i/6%6], l[i/36%6], l[i/216%6]}
		for k := 1; k < 6*6*6; k++ {
			b := []uint64{l[k%6], l[k/6%6], l[k/36]}
			q, r, e := Div(a, b)
			back := sum(product(trim(b), q), r)
			if e != api.OK || compare(r, trim(b)) >= 0 || compare(back, trim(a)) != 0 {
				t.Fatalf("%x, %x: %x, %x, %v", a, b, q, r, e)
			}
		}
	}
}

// P2.2: of these, what was taken off by two limbs' estimate must be given back.
func TestDivGivenBack(t *testing.T) {
	for _, x := range [][2][]uint64{
		{{3, 0, 1 << 63}, {1, 0, 1 << 61}},
		{{0, 0, 1 << 63, 1<<63 - 1}, {1, 0, 1 << 63}},
		{{0, math.MaxUint64 - 1, 1 << 63}, {math.MaxUint64, 1 << 63}},
		{{0, math.MaxUint64 - 1, 0, 1 << 63}, {math.MaxUint64, 0, 1 << 63}},
		{{0, 0, 0, 1 << 63, 1<<63 - 1}, {1, 0, 0, 1 << 63}},
	} {
		checkDiv(t, x[0], x[1])
	}
}

// P2.2: estimates that are too great by one and by two, and one of which the quotient's limb would not fit.
func TestEstimate(t *testing.T) {
	const most = math.MaxUint64
	for i, x := range []struct {
		rest [3]uint64
		b    [2]uint64
	}{
		{[3]uint64{0, 5, 9}, [2]uint64{1 << 63, 7}},
		{[3]uint64{1<<63 - 1, most, most}, [2]uint64{1 << 63, most}},
		{[3]uint64{1<<63 - 1, 0, 0}, [2]uint64{1 << 63, most}},
		{[3]uint64{1 << 63, 0, 0}, [2]uint64{1 << 63, 1}},
		{[3]uint64{1 << 63, most - 5, 3}, [2]uint64{1 << 63, most}},
		{[3]uint64{1 << 62, 0, 0}, [2]uint64{1 << 63, most}},
		{[3]uint64{most, most - 1, most}, [2]uint64{most, most}},
	} {
		rest := value([]uint64{x.rest[2], x.rest[1], x.rest[0]})
		want := new(big.Int).Quo(rest, value([]uint64{x.b[1], x.b[0]}))
		if got := new(big.Int).SetUint64(estimate(x.rest, x.b)); got.Cmp(want) != 0 {
			t.Errorf("%d: %x, not %x", i, got, want)
		}
	}
}

// P2.2: up to MaxLimbs limbs.
func TestDivLong(t *testing.T) {
	next := stream(3)
	for _, x := range [][2]int{{4096, 1}, {4096, 2}, {4096, 2048}, {4096, 4095}, {4096, 4096}, {2048, 4096}, {700, 300}, {511, 17}} {
		checkDiv(t, ones(x[0]), ones(x[1]))
		checkDiv(t, ones(x[0]), append(make([]uint64, x[1]-1), 1))
		checkDiv(t, ones(x[0]), append(someOf(x[1]-1, next), 1<<63))
		checkDiv(t, someOf(x[0], next), append(someOf(x[1]-1, next), 3))
		checkDiv(t, append(make([]uint64, x[0]-1), 1), append(someOf(x[1]-1, next), 5, 0, 0))
	}
}

func checkSqrt(t *testing.T, a []uint64) {
	t.Helper()
	root, rest, e := Sqrt(a)
	want := new(big.Int).Sqrt(value(a))
	expect(t, "Sqrt, the root", root, e, want)
	expect(t, "Sqrt, the rest", rest, e, want.Sub(value(a), want.Mul(want, want)))
}

// P2.2
func TestSqrt(t *testing.T) {
	for _, a := range append(samples(), justLong()) {
		checkSqrt(t, a)
	}
	for n := range uint64(3000) {
		checkSqrt(t, []uint64{n})
	}
	for i := range 6 * 6 * 6 * 6 {
		l := edgeLimbs()
		checkSqrt(t, []uint64{l[i%6], l[i/6%6], l[i/36%6], l[i/216%6]})
	}
}

// P2.2: squares and their neighbours.
func TestSqrtSquares(t *testing.T) {
	roots := [][]uint64{{1}, {2}, {1<<32 - 1}, {1 << 32}, {1<<32 + 1}, ones(1), {0, 1}, {1, 1}, ones(2), ones(3), {0, 0, 1}, {1, 0, 1 << 63}, ones(100), ones(api.MaxLimbs / 2)}
	next := stream(4)
	for n := range 40 {
		roots = append(roots, append(someOf(n%9, next), 1+next()>>(n%63)))
	}
	for _, r := range roots {
		root := value(r)
		square := new(big.Int).Mul(root, root)
		last := new(big.Int).Add(square, new(big.Int).Lsh(root, 1))
		checkSqrt(t, limbsOf(new(big.Int).Sub(square, big.NewInt(1))))
		checkSqrt(t, limbsOf(square))
		checkSqrt(t, limbsOf(new(big.Int).Add(square, big.NewInt(1))))
		checkSqrt(t, limbsOf(last))
		if above := limbsOf(new(big.Int).Add(last, big.NewInt(1))); len(above) <= api.MaxLimbs {
			checkSqrt(t, above)
		}
	}
}

// P2.5: by their equations.
func TestEquations(t *testing.T) {
	next := stream(5)
	for n := range 400 {
		a, b := someOf(n%12, next), append(someOf(n%5, next), 1+next()>>1)
		q, r, e := Div(a, b)
		back, f := Mul(q, b)
		back, g := Add(back, r)
		order, _ := Cmp(r, b)
		if same, _ := Cmp(back, a); same != 0 || order >= 0 || e != api.OK || f != api.OK || g != api.OK {
			t.Errorf("%x, %x: %x, %x, %v", a, b, q, r, e)
		}
		root, rest, e := Sqrt(a)
		square, f := Mul(root, root)
		back, g = Add(square, rest)
		most, _ := Shl(root, 1)
		order, _ = Cmp(rest, most)
		if same, _ := Cmp(back, a); same != 0 || order > 0 || e != api.OK || f != api.OK || g != api.OK {
			t.Errorf("%x: %x, %x, %v", a, root, rest, e)
		}
	}
}
