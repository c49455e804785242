package dyad

import (
	"math"
	"testing"

	"plumbline/api"
)

// The rows of the chapter's table, one by one.

func of(f float64) api.Dyad {
	d, _ := Of(f)
	return d
}

func half(k int) api.Dyad {
	d, _ := Half(k)
	return d
}

func expectText(t *testing.T, d api.Dyad, e api.Errno, want string) {
	t.Helper()
	if s, f := Text(d); s != want || e != api.OK || f != api.OK {
		t.Errorf("%s, %v, %v, not %s", s, e, f, want)
	}
}

func TestRowOne(t *testing.T) {
	expectText(t, of(0.5), api.OK, "1p-1")
	expectText(t, of(-6), api.OK, "-3p1")
	expectText(t, of(math.Copysign(0, -1)), api.OK, "0")
	if _, e := Of(math.NaN()); e != api.ErrArg {
		t.Error(e)
	}
}

func TestRowTwo(t *testing.T) {
	d, e := Add(of(1), half(-60))
	expectText(t, d, e, "1152921504606846977p-60")
	expectFloat(t, d, 1)
	d, e = Add(of(1), half(-53))
	expectFloat(t, d, 1)
	if e != api.OK {
		t.Error(e)
	}
}

func TestRowThree(t *testing.T) {
	if n, e := Cmp(half(-1), Whole(0)); n != 1 || e != api.OK {
		t.Error(n, e)
	}
	d, e := Sub(Whole(3), Whole(3))
	expectText(t, d, e, "0")
	d, e = Mul(of(0.1), Whole(10))
	expectText(t, d, e, "18014398509481985p-54")
}

func TestRowFour(t *testing.T) {
	expectFloat(t, half(1024), math.Inf(1))
	expectFloat(t, half(-1075), 0)
	d, e := Neg(half(-1075))
	expectFloat(t, d, math.Copysign(0, -1))
	if e != api.OK {
		t.Error(e)
	}
}
