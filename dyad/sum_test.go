package dyad

import (
	"math"
	"math/big"
	"slices"
	"testing"

	"plumbline/api"
)

func checkSum(t *testing.T, call string, got api.Dyad, e api.Errno, a, b number, want func(a, b number) number) {
	t.Helper()
	if apart(a, b) {
		refuse(t, call, got, e, api.ErrLong)
		return
	}
	expect(t, call, got, e, want(a, b))
}

func checkPair(t *testing.T, a, b api.Dyad) {
	t.Helper()
	x, y := value(a), value(b)
	got, e := Add(a, b)
	checkSum(t, "Add", got, e, x, y, number.plus)
	got, e = Sub(a, b)
	checkSum(t, "Sub", got, e, x, y, number.minus)
	order, e := Cmp(a, b)
	if apart(x, y) {
		if order != 0 || e != api.ErrLong {
			t.Errorf("Cmp(%s, %s): %d, %v", short(a), short(b), order, e)
		}
	} else if want := x.minus(y).n.Sign(); order != want || e != api.OK {
		t.Errorf("Cmp(%s, %s): %d, %v, not %d", short(a), short(b), order, e, want)
	}
	if t.Failed() {
		t.Fatalf("%s, %s", short(a), short(b))
	}
}

// P3.2
func TestPairs(t *testing.T) {
	for _, a := range samples() {
		for _, b := range samples() {
			checkPair(t, a, b)
		}
	}
}

// P3.2
func TestMul(t *testing.T) {
	for _, a := range samples() {
		for _, b := range samples() {
			got, e := Mul(a, b)
			if bits := value(a).odd().n.BitLen() + value(b).odd().n.BitLen(); bits > 64*api.MaxLimbs+1 { // need not be made here
				refuse(t, "Mul", got, e, api.ErrLong)
				continue
			}
			expect(t, "Mul", got, e, value(a).times(value(b)))
		}
	}
}

// P3.2: what is just as far apart as may be, and one bit further; with a 0, whatever its E, it does not count.
func TestPlaces(t *testing.T) {
	const far = 64 * api.MaxLimbs
	one := api.Dyad{M: []uint64{1}, E: 1}
	for _, x := range []struct {
		d    api.Dyad
		want api.Errno
	}{
		{api.Dyad{M: []uint64{1}, E: 1 - far}, api.OK},
		{api.Dyad{M: []uint64{1}, E: -far}, api.ErrLong},
		{api.Dyad{Neg: true, M: []uint64{1}, E: -far}, api.ErrLong},
		{api.Dyad{M: []uint64{2}, E: -far}, api.OK},
		{api.Dyad{M: []uint64{3}, E: -far}, api.ErrLong},
		{api.Dyad{Neg: true, M: []uint64{1}, E: far}, api.OK},
		{api.Dyad{M: []uint64{2}, E: far}, api.OK},
		{api.Dyad{M: []uint64{4}, E: far}, api.ErrLong},
		{api.Dyad{E: -far}, api.OK},
		{api.Dyad{Neg: true, M: make([]uint64, 9), E: far}, api.OK},
	} {
		order, e := Cmp(one, x.d)
		back, f := Cmp(x.d, one)
		if e != x.want || f != x.want || order != -back {
			t.Errorf("%s: %d, %v; %d, %v", short(x.d), order, e, back, f)
		}
		checkPair(t, one, x.d)
		checkPair(t, x.d, one)
	}
}

// P3.2: at a common place these have one bit more than MaxLimbs limbs, their sum has not.
func TestOneBitTooMany(t *testing.T) {
	const most = 64 * api.MaxLimbs
	ones, one := api.Dyad{M: ones(api.MaxLimbs)}, api.Dyad{M: []uint64{1}}
	great, e := Half(most)
	if e != api.OK {
		t.Fatal(e)
	}
	d, e := Sub(great, one)
	expect(t, "Sub", d, e, value(ones))
	d, e = Sub(one, great)
	expect(t, "Sub", d, e, value(api.Dyad{Neg: true, M: ones.M}))
	d, e = Add(ones, one)
	expect(t, "Add", d, e, value(great))
	d, e = Add(great, one)
	refuse(t, "Add", d, e, api.ErrLong)
	d, e = Add(ones, ones)
	expect(t, "Add", d, e, value(api.Dyad{M: ones.M, E: 1}))
	d, e = Sub(great, ones)
	expect(t, "Sub", d, e, value(one))
	d, e = Sub(api.Dyad{M: []uint64{3}, E: most - 1}, ones)
	expect(t, "Sub", d, e, number{new(big.Int).Add(new(big.Int).Lsh(big.NewInt(1), most-1), big.NewInt(1)), 0})
	d, e = Sub(api.Dyad{M: []uint64{1}, E: most + 1 - 7}, api.Dyad{M: ones.M, E: -7})
	refuse(t, "Sub", d, e, api.ErrLong)
	d, e = Sub(api.Dyad{M: []uint64{4}, E: most}, api.Dyad{M: ones.M, E: 2})
	expect(t, "Sub", d, e, number{big.NewInt(4), 0})
}

// P3.2: neither number may be answered, but what is made of both may.
func TestBackWithin(t *testing.T) {
	a, b := api.Dyad{M: []uint64{2}, E: api.MaxExp}, api.Dyad{M: []uint64{1}, E: api.MaxExp}
	d, e := Sub(a, b)
	expect(t, "Sub", d, e, value(b))
	d, e = Sub(a, a)
	expect(t, "Sub", d, e, number{new(big.Int), 0})
	d, e = Mul(a, api.Dyad{M: []uint64{1}, E: -1})
	expect(t, "Mul", d, e, value(b))
	d, e = Shift(a, -1)
	expect(t, "Shift", d, e, value(b))
	d, e = Add(a, api.Dyad{})
	refuse(t, "Add", d, e, api.ErrLong)
	if n, e := Cmp(a, b); n != 1 || e != api.OK {
		t.Error(n, e)
	}
	if n, e := Cmp(a, a); n != 0 || e != api.OK {
		t.Error(n, e)
	}
}

// A dyad that may not be is told ahead of what is too great.
func TestWrongPairs(t *testing.T) {
	right := []api.Dyad{{}, {M: []uint64{1}}, {M: []uint64{2}, E: api.MaxExp}, {M: ones(api.MaxLimbs), E: -api.MaxExp}}
	for _, d := range wrong() {
		for _, r := range append(right, d) {
			for _, x := range [][2]api.Dyad{{d, r}, {r, d}} {
				if n, e := Cmp(x[0], x[1]); n != 0 || e != api.ErrArg {
					t.Errorf("Cmp: %d, %v", n, e)
				}
				for name, call := range map[string]func(a, b api.Dyad) (api.Dyad, api.Errno){"Add": Add, "Sub": Sub, "Mul": Mul} {
					got, e := call(x[0], x[1])
					refuse(t, name, got, e, api.ErrArg)
				}
			}
		}
	}
}

// P3.3
func TestSum(t *testing.T) {
	d, e := Sum()
	expect(t, "Sum", d, e, number{new(big.Int), 0})
	var l []api.Dyad
	total := number{new(big.Int), 0}
	for _, f := range floats() {
		d, _ := Of(f)
		l, total = append(l, d), total.plus(value(d))
		got, e := Sum(l...)
		expect(t, "Sum", got, e, total)
	}
	for _, d := range samples() {
		got, e := Sum(d)
		expect(t, "Sum", got, e, value(d))
	}
}

// P3.3: in part, and whole.
func TestSumCancels(t *testing.T) {
	great, _ := Half(200000)
	less, _ := Neg(great)
	small := Whole(-5)
	d, e := Sum(great, small, less)
	expect(t, "Sum", d, e, number{big.NewInt(-5), 0})
	d, e = Sum(great, small, less, Whole(5))
	expect(t, "Sum", d, e, number{new(big.Int), 0})
	d, e = Sum(api.Dyad{Neg: true}, api.Dyad{E: 5}, api.Dyad{M: []uint64{0}})
	expect(t, "Sum", d, e, number{new(big.Int), 0})
}

// P3.3
func TestDot(t *testing.T) {
	d, e := Dot(nil, []api.Dyad{})
	expect(t, "Dot", d, e, number{new(big.Int), 0})
	var a, b []api.Dyad
	total := number{new(big.Int), 0}
	l := floats()
	for i, f := range l {
		x, _ := Of(f)
		y, _ := Of(l[len(l)-1-i])
		a, b, total = append(a, x), append(b, y), total.plus(value(x).times(value(y)))
		got, e := Dot(a, b)
		expect(t, "Dot", got, e, total)
	}
	for _, x := range [][2]int{{0, 1}, {1, 0}, {3, 2}, {2, 3}} {
		d, e := Dot(a[:x[0]], b[:x[1]])
		refuse(t, "Dot", d, e, api.ErrArg)
	}
}

// P3.3: the first error of all is told, whatever comes behind it, and whatever the whole would come to.
func TestFirstError(t *testing.T) {
	one := api.Dyad{M: []uint64{1}}
	bad := api.Dyad{M: []uint64{1}, E: api.MaxExp + 1}
	great := api.Dyad{M: []uint64{2}, E: api.MaxExp}
	lost := api.Dyad{M: []uint64{1}, E: -1}
	half, _ := Half(api.MaxExp)
	gone, _ := Neg(half)
	for i, x := range []struct {
		l    []api.Dyad
		want api.Errno
	}{
		{[]api.Dyad{one, one, bad}, api.ErrArg},
		{[]api.Dyad{bad, great}, api.ErrArg},
		{[]api.Dyad{great, bad}, api.ErrLong},
		{[]api.Dyad{half, lost, bad}, api.ErrLong},
		{[]api.Dyad{half, bad, lost}, api.ErrArg},
		{[]api.Dyad{half, lost, gone}, api.ErrLong},
		{[]api.Dyad{half, half}, api.ErrLong},
		{[]api.Dyad{half, half, gone}, api.ErrLong},
		{[]api.Dyad{half, gone, lost}, api.OK},
		{[]api.Dyad{half, gone, {E: -9}, lost}, api.OK},
	} {
		got, e := Sum(x.l...)
		units := slices.Repeat([]api.Dyad{one}, len(x.l))
		dot, f := Dot(x.l, units)
		turned, g := Dot(units, x.l)
		if x.want == api.OK {
			expect(t, "Sum", got, e, value(lost))
			expect(t, "Dot", dot, f, value(lost))
			expect(t, "Dot", turned, g, value(lost))
		} else {
			refuse(t, "Sum", got, e, x.want)
			refuse(t, "Dot", dot, f, x.want)
			refuse(t, "Dot", turned, g, x.want)
		}
		if t.Failed() {
			t.Fatal(i)
		}
	}
}

// P3.3: a product that is too great is refused, though the next one would take it off again; and lists of other lengths ahead of all.
func TestDotErrors(t *testing.T) {
	half, _ := Half(api.MaxExp)
	gone, _ := Neg(half)
	two, bad := Whole(2), api.Dyad{E: math.MaxInt}
	for i, x := range []struct {
		a, b []api.Dyad
		want api.Errno
	}{
		{[]api.Dyad{half, gone}, []api.Dyad{two, two}, api.ErrLong},
		{[]api.Dyad{half, bad}, []api.Dyad{two, two}, api.ErrLong},
		{[]api.Dyad{two, bad}, []api.Dyad{half, half}, api.ErrLong},
		{[]api.Dyad{half, half}, []api.Dyad{{}, bad}, api.ErrArg},
		{[]api.Dyad{half, half}, []api.Dyad{two}, api.ErrArg},
		{[]api.Dyad{half}, []api.Dyad{two, bad}, api.ErrArg},
		{[]api.Dyad{half, two}, []api.Dyad{Whole(1), half}, api.ErrLong},
	} {
		d, e := Dot(x.a, x.b)
		refuse(t, "Dot", d, e, x.want)
		if t.Failed() {
			t.Fatal(i)
		}
	}
}

// P3.5: in any order, and spread.
func TestSumsAndProducts(t *testing.T) {
	l := slices.DeleteFunc(samples(), func(d api.Dyad) bool { return len(d.M) > 8 || d.E > 2000 || d.E < -2000 })
	call := func(d api.Dyad, e api.Errno) api.Dyad {
		if e != api.OK {
			t.Fatal(e)
		}
		return d
	}
	for i, a := range l {
		b := l[i*7%len(l)]
		for _, c := range l {
			if !Same(call(Add(a, b)), call(Add(b, a))) || !Same(call(Mul(a, b)), call(Mul(b, a))) {
				t.Fatalf("%s, %s: in the other order", short(a), short(b))
			}
			if !Same(call(Add(call(Add(a, b)), c)), call(Add(a, call(Add(b, c))))) || !Same(call(Mul(call(Mul(a, b)), c)), call(Mul(a, call(Mul(b, c))))) {
				t.Fatalf("%s, %s, %s: from the other end", short(a), short(b), short(c))
			}
			if !Same(call(Mul(call(Add(a, b)), c)), call(Dot([]api.Dyad{a, b}, []api.Dyad{c, c}))) {
				t.Fatalf("%s, %s, %s: spread", short(a), short(b), short(c))
			}
			order, e := Cmp(a, c)
			if order != Sign(call(Sub(a, c))) || e != api.OK {
				t.Fatalf("%s, %s: %d, %v", short(a), short(c), order, e)
			}
		}
	}
}
