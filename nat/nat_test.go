package nat

import (
	"math"
	"math/big"
	"testing"

	"plumbline/api"
)

// P2.1
func TestNormOf(t *testing.T) {
	for _, a := range append(samples(), justLong(), ones(api.MaxLimbs)) {
		n, e := Norm(a)
		expect(t, "Norm", n, e, value(a))
	}
	for _, n := range append(edgeLimbs(), 2, 10, 1<<32) {
		expect(t, "Of", Of(n), api.OK, new(big.Int).SetUint64(n))
	}
}

// P2.1
func TestCmp(t *testing.T) {
	for _, a := range samples() {
		for _, b := range samples() {
			if n, e := Cmp(a, b); n != value(a).Cmp(value(b)) || e != api.OK {
				t.Errorf("%x, %x: %d, %v", a, b, n, e)
			}
		}
	}
	less := ones(api.MaxLimbs)
	less[0]--
	for i, x := range []struct {
		a, b []uint64
		want int
	}{{ones(api.MaxLimbs), justLong(), 0}, {less, justLong(), -1}, {justLong(), less, 1}, {ones(api.MaxLimbs), ones(api.MaxLimbs - 1), 1}} {
		if n, e := Cmp(x.a, x.b); n != x.want || e != api.OK {
			t.Error(i, n, e)
		}
	}
}

// P2.1
func TestAddSubMul(t *testing.T) {
	for _, a := range samples() {
		for _, b := range samples() {
			s, e := Add(a, b)
			expect(t, "Add", s, e, new(big.Int).Add(value(a), value(b)))
			p, e := Mul(a, b)
			expect(t, "Mul", p, e, new(big.Int).Mul(value(a), value(b)))
			d, e := Sub(a, b)
			if want := new(big.Int).Sub(value(a), value(b)); want.Sign() >= 0 {
				expect(t, "Sub", d, e, want)
			} else {
				refuse(t, "Sub", d, e, api.ErrArg)
			}
		}
	}
}

// P2.1: a carry and a borrow that go through all limbs, as far as there may be any.
func TestCarryThroughAll(t *testing.T) {
	one := []uint64{1, 0}
	for _, n := range []int{1, 2, 64, api.MaxLimbs - 1} {
		power := append(make([]uint64, n), 1)
		s, e := Add(ones(n), one)
		expect(t, "Add", s, e, value(power))
		s, e = Add(one, ones(n))
		expect(t, "Add", s, e, value(power))
		d, e := Sub(power, one)
		expect(t, "Sub", d, e, value(ones(n)))
		d, e = Sub(power, ones(n))
		expect(t, "Sub", d, e, big.NewInt(1))
		d, e = Sub(ones(n), power)
		refuse(t, "Sub", d, e, api.ErrArg)
		p, e := Mul(ones(n), []uint64{math.MaxUint64})
		expect(t, "Mul", p, e, new(big.Int).Mul(value(ones(n)), value(ones(1))))
	}
}

// P2.1: just MaxLimbs limbs are answered, one more is ErrLong.
func TestLongAnswers(t *testing.T) {
	most := ones(api.MaxLimbs)
	s, e := Add(most, nil)
	expect(t, "Add", s, e, value(most))
	less := ones(api.MaxLimbs)
	less[0]--
	s, e = Add(less, Of(1))
	expect(t, "Add", s, e, value(most))
	for _, a := range [][]uint64{Of(1), most, justLong(), less} {
		s, e = Add(most, a)
		refuse(t, "Add", s, e, api.ErrLong)
		s, e = Add(a, most)
		refuse(t, "Add", s, e, api.ErrLong)
	}
	s, e = Sub(justLong(), most)
	expect(t, "Sub", s, e, new(big.Int))
	s, e = Sub(most, less)
	expect(t, "Sub", s, e, big.NewInt(1))
}

// P2.1
func TestLongProducts(t *testing.T) {
	const half = api.MaxLimbs / 2
	power := func(k uint) []uint64 { return limbsOf(new(big.Int).Lsh(big.NewInt(1), k)) }
	for _, x := range []struct {
		a, b []uint64
		want api.Errno
	}{
		{ones(half), ones(half), api.OK},
		{ones(half), ones(half + 1), api.ErrLong},
		{ones(half + 1), power(64 * (half - 1)), api.OK},
		{power(64 * half), power(64*half - 1), api.OK},
		{power(64 * half), power(64 * half), api.ErrLong},
		{power(64*half + 63), power(64 * (half - 1)), api.OK},
		{power(64*half + 63), power(64*(half-1) + 1), api.ErrLong},
		{power(64*half + 63), power(64*half - 1), api.ErrLong},
		{ones(api.MaxLimbs), Of(1), api.OK},
		{ones(api.MaxLimbs), Of(2), api.ErrLong},
		{ones(api.MaxLimbs), []uint64{0, 1}, api.ErrLong},
		{justLong(), nil, api.OK},
		{make([]uint64, 5000), justLong(), api.OK},
		{justLong(), justLong(), api.ErrLong},
	} {
		for _, y := range [][2][]uint64{{x.a, x.b}, {x.b, x.a}} {
			p, e := Mul(y[0], y[1])
			if x.want != api.OK {
				refuse(t, "Mul", p, e, x.want)
			} else {
				expect(t, "Mul", p, e, new(big.Int).Mul(value(x.a), value(x.b)))
			}
		}
	}
}

// P0.8: a list of more than MaxLimbs limbs is refused by all that may refuse, and ahead of ErrLong.
func TestTooLongHandedIn(t *testing.T) {
	long := tooLong()
	for name, call := range map[string]func(a, b []uint64) ([]uint64, api.Errno){"Add": Add, "Sub": Sub, "Mul": Mul} {
		for _, x := range [][2][]uint64{{long, nil}, {nil, long}, {long, long}, {long, ones(api.MaxLimbs)}, {ones(api.MaxLimbs), long}} {
			c, e := call(x[0], x[1])
			refuse(t, name, c, e, api.ErrArg)
		}
	}
	for _, x := range [][2][]uint64{{long, nil}, {nil, long}, {long, long}} {
		if n, e := Cmp(x[0], x[1]); n != 0 || e != api.ErrArg {
			t.Error("Cmp", n, e)
		}
		q, r, e := Div(x[0], x[1])
		refuse(t, "Div", append(q, r...), e, api.ErrArg)
	}
	n, e := Norm(long)
	refuse(t, "Norm", n, e, api.ErrArg)
	root, rest, e := Sqrt(long)
	refuse(t, "Sqrt", append(root, rest...), e, api.ErrArg)
	for _, k := range []int{0, 1, 64, 1 << 20, math.MaxInt, -1} {
		c, e := Shl(long, k)
		refuse(t, "Shl", c, e, api.ErrArg)
		c, lost, e := Shr(long, k)
		refuse(t, "Shr", c, e, api.ErrArg)
		if lost {
			t.Error("Shr: lost beside an error")
		}
	}
	for name, call := range map[string]func([]uint64) (int, api.Errno){"Bits": Bits, "Zeros": Zeros} {
		if n, e := call(long); n != 0 || e != api.ErrArg {
			t.Error(name, n, e)
		}
	}
	if s, e := Text(long); s != "" || e != api.ErrArg {
		t.Error("Text", len(s), e)
	}
}

// P2.5: in any order, and spread.
func TestSumsAndProducts(t *testing.T) {
	next := stream(2)
	for n := range 120 {
		a, b, c := someOf(n%7, next), someOf(n%5, next), someOf(n%4, next)
		both, e := Add(a, b)
		again, _ := Add(b, a)
		expect(t, "b + a", again, e, value(both))
		first, e := Add(both, c)
		last, _ := Add(b, c)
		last, _ = Add(a, last)
		expect(t, "a + (b + c)", last, e, value(first))
		less, e := Sub(both, b)
		expect(t, "a + b - b", less, e, value(a))

		times, e := Mul(a, b)
		again, _ = Mul(b, a)
		expect(t, "b a", again, e, value(times))
		first, e = Mul(times, c)
		last, _ = Mul(b, c)
		last, _ = Mul(a, last)
		expect(t, "a (b c)", last, e, value(first))
		whole, e := Mul(both, c)
		one, _ := Mul(a, c)
		other, _ := Mul(b, c)
		spread, _ := Add(one, other)
		expect(t, "a c + b c", spread, e, value(whole))
	}
}
