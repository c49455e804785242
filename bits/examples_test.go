package bits

import (
	"testing"

	"plumbline/api"
)

// The rows of the chapter's table, one by one.

func TestRowOne(t *testing.T) {
	w := Of(1)
	p, e := Parts(w)
	if w != 0x3FF0000000000000 || Text(w) != "3FF0000000000000" || p != (api.Parts{Man: 1 << 52, Exp: -52}) || e != api.OK {
		t.Error(w, Text(w), p, e)
	}
}

func TestRowTwo(t *testing.T) {
	if p, e := Parts(1); p != (api.Parts{Man: 1, Exp: -1074}) || e != api.OK {
		t.Error(p, e)
	}
	if w, e := Exact(api.Parts{Man: 3, Exp: -1074}); w != 3 || e != api.OK {
		t.Error(w, e)
	}
	for _, exp := range []int{-1075, 1024} {
		if w, e := Exact(api.Parts{Man: 1, Exp: exp}); w != 0 || e != api.ErrNone {
			t.Error(exp, w, e)
		}
	}
}

func TestRowThree(t *testing.T) {
	for _, x := range []struct {
		man  uint64
		more bool
		want uint64
	}{{1, false, 0}, {1, true, 1}, {3, false, 2}} {
		if w, e := Round(api.Parts{Man: x.man, Exp: -1075}, x.more); w != x.want || e != api.OK {
			t.Error(x, w, e)
		}
	}
}

func TestRowFour(t *testing.T) {
	if n, e := Compare(0, 0x8000000000000000); n != 0 || e != api.OK {
		t.Error(n, e)
	}
	if w, e := Up(0x8000000000000000); w != 1 || e != api.OK {
		t.Error(w, e)
	}
	if w, e := Down(0); w != 0x8000000000000001 || e != api.OK {
		t.Error(w, e)
	}
	if n, e := Steps(0x8000000000000001, 1); n != 2 || e != api.OK {
		t.Error(n, e)
	}
}

func TestRowFive(t *testing.T) {
	if k, e := Log(Of(3)); k != 1 || e != api.OK {
		t.Error(k, e)
	}
	for k, want := range map[int]uint64{-1074: 1, -1075: 0, 1024: 0x7FF0000000000000} {
		if w := Scale(Of(1), k); w != want {
			t.Errorf("%d: %x", k, w)
		}
	}
}
