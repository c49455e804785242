package nat

import (
	"math"
	"slices"
	"testing"

	"plumbline/api"
)

// The rows of the chapter's table, one by one.

func TestRowOne(t *testing.T) {
	if a, e := Add([]uint64{math.MaxUint64}, []uint64{1}); !slices.Equal(a, []uint64{0, 1}) || e != api.OK {
		t.Error(a, e)
	}
	if a, e := Sub([]uint64{0, 1}, []uint64{1}); !slices.Equal(a, []uint64{math.MaxUint64}) || e != api.OK {
		t.Error(a, e)
	}
	if a, e := Sub([]uint64{1}, []uint64{2}); len(a) != 0 || e != api.ErrArg {
		t.Error(a, e)
	}
}

func TestRowTwo(t *testing.T) {
	if a, e := Mul([]uint64{math.MaxUint64}, []uint64{math.MaxUint64}); !slices.Equal(a, []uint64{1, 18446744073709551614}) || e != api.OK {
		t.Error(a, e)
	}
	if q, r, e := Div([]uint64{0, 1}, []uint64{10}); !slices.Equal(q, []uint64{1844674407370955161}) || !slices.Equal(r, []uint64{6}) || e != api.OK {
		t.Error(q, r, e)
	}
	if root, rest, e := Sqrt([]uint64{17}); !slices.Equal(root, []uint64{4}) || !slices.Equal(rest, []uint64{1}) || e != api.OK {
		t.Error(root, rest, e)
	}
}

func TestRowThree(t *testing.T) {
	if a, e := Shl([]uint64{1}, 64); !slices.Equal(a, []uint64{0, 1}) || e != api.OK {
		t.Error(a, e)
	}
	if a, lost, e := Shr([]uint64{3}, 1); !slices.Equal(a, []uint64{1}) || !lost || e != api.OK {
		t.Error(a, lost, e)
	}
	for _, x := range []struct {
		call func([]uint64) (int, api.Errno)
		a    []uint64
		want int
	}{{Bits, nil, 0}, {Bits, []uint64{0, 1}, 65}, {Zeros, []uint64{0, 1}, 64}} {
		if n, e := x.call(x.a); n != x.want || e != api.OK {
			t.Error(x.a, n, e)
		}
	}
}

func TestRowFour(t *testing.T) {
	if s, e := Text([]uint64{0, 1}); s != "18446744073709551616" || e != api.OK {
		t.Error(s, e)
	}
	if a, e := Read("00"); len(a) != 0 || e != api.ErrArg {
		t.Error(a, e)
	}
	if a, e := Read("18446744073709551616"); !slices.Equal(a, []uint64{0, 1}) || e != api.OK {
		t.Error(a, e)
	}
}
