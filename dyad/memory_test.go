package dyad

import (
	"slices"
	"testing"

	"plumbline/api"
)

// guarded is a copy of d with more behind its limbs' end, in their memory, which nobody may touch.
func guarded(d api.Dyad) api.Dyad {
	d.M = append(slices.Clone(d.M), 1, 2, 3, 4, 5)[:len(d.M)]
	return d
}

func untouched(d, was api.Dyad) bool {
	return same(d, was) && slices.Equal(d.M[len(d.M):len(d.M)+5], []uint64{1, 2, 3, 4, 5})
}

// spoil writes over all the memory that an answer gives its caller.
func spoil(d api.Dyad) {
	m := d.M[:cap(d.M)]
	for i := range m {
		m[i] = 0xDEAD
	}
}

func pairCalls() map[string]func(a, b api.Dyad) (api.Dyad, api.Errno) {
	return map[string]func(a, b api.Dyad) (api.Dyad, api.Errno){
		"Norm":         func(a, b api.Dyad) (api.Dyad, api.Errno) { return Norm(a) },
		"Neg":          func(a, b api.Dyad) (api.Dyad, api.Errno) { return Neg(a) },
		"Abs":          func(a, b api.Dyad) (api.Dyad, api.Errno) { return Abs(a) },
		"Shift by 0":   func(a, b api.Dyad) (api.Dyad, api.Errno) { return Shift(a, 0) },
		"Shift by 9":   func(a, b api.Dyad) (api.Dyad, api.Errno) { return Shift(a, 9) },
		"Add":          Add,
		"Sub":          Sub,
		"Mul":          Mul,
		"Add to 0":     func(a, b api.Dyad) (api.Dyad, api.Errno) { return Add(api.Dyad{}, b) },
		"Sub of 0":     func(a, b api.Dyad) (api.Dyad, api.Errno) { return Sub(a, api.Dyad{}) },
		"Sub from 0":   func(a, b api.Dyad) (api.Dyad, api.Errno) { return Sub(api.Dyad{}, b) },
		"Mul by 1":     func(a, b api.Dyad) (api.Dyad, api.Errno) { return Mul(a, Whole(1)) },
		"Add itself":   func(a, b api.Dyad) (api.Dyad, api.Errno) { return Add(a, a) },
		"Sub itself":   func(a, b api.Dyad) (api.Dyad, api.Errno) { return Sub(a, a) },
		"Mul itself":   func(a, b api.Dyad) (api.Dyad, api.Errno) { return Mul(a, a) },
		"Sum of one":   func(a, b api.Dyad) (api.Dyad, api.Errno) { return Sum(a) },
		"Sum":          func(a, b api.Dyad) (api.Dyad, api.Errno) { return Sum(a, b, a) },
		"Sum with 0":   func(a, b api.Dyad) (api.Dyad, api.Errno) { return Sum(api.Dyad{}, a, api.Dyad{}) },
		"Dot":          func(a, b api.Dyad) (api.Dyad, api.Errno) { return Dot([]api.Dyad{a, b}, []api.Dyad{b, b}) },
		"Dot by 1":     func(a, b api.Dyad) (api.Dyad, api.Errno) { return Dot([]api.Dyad{a}, []api.Dyad{Whole(1)}) },
		"Cmp":          func(a, b api.Dyad) (api.Dyad, api.Errno) { n, e := Cmp(a, b); return Whole(int64(n)), e },
		"Sign":         func(a, b api.Dyad) (api.Dyad, api.Errno) { return Whole(int64(Sign(a))), api.OK },
		"Float":        func(a, b api.Dyad) (api.Dyad, api.Errno) { f, e := Float(a); d, _ := Of(f); return d, e },
		"Text":         func(a, b api.Dyad) (api.Dyad, api.Errno) { s, e := Text(a); return Whole(int64(len(s))), e },
		"Same and May": func(a, b api.Dyad) (api.Dyad, api.Errno) { Same(a, b); May(a); return api.Dyad{}, api.OK },
		"Whole":        func(a, b api.Dyad) (api.Dyad, api.Errno) { return Whole(77), api.OK },
		"Half":         func(a, b api.Dyad) (api.Dyad, api.Errno) { return Half(77) },
		"Of":           func(a, b api.Dyad) (api.Dyad, api.Errno) { return Of(77) },
	}
}

// What is handed in stays as it was, what is answered shares no memory with it; and called again, the same is answered.
func TestMemory(t *testing.T) {
	l := slices.DeleteFunc(samples(), func(d api.Dyad) bool { return len(d.M) > 8 })
	for name, call := range pairCalls() {
		for _, x := range l {
			for _, y := range l {
				a, b := guarded(x), guarded(y)
				got, e := call(a, b)
				kept := api.Dyad{Neg: got.Neg, M: slices.Clone(got.M), E: got.E}
				spoil(got)
				if !untouched(a, x) || !untouched(b, y) {
					t.Fatalf("%s(%s, %s): what was handed in is changed", name, short(x), short(y))
				}
				if again, f := call(a, b); !same(again, kept) || e != f {
					t.Fatalf("%s(%s, %s): %s, and %s", name, short(x), short(y), short(kept), short(again))
				}
			}
		}
	}
}

// Sum and Dot leave the lists as they are.
func TestListsStay(t *testing.T) {
	a := []api.Dyad{Whole(6), {M: []uint64{4, 0}}, {Neg: true, M: []uint64{1, 2}, E: 3}}
	was := slices.Clone(a)
	if _, e := Sum(a...); e != api.OK {
		t.Error(e)
	}
	if _, e := Dot(a, a); e != api.OK {
		t.Error(e)
	}
	for i, d := range a {
		if !same(d, was[i]) {
			t.Errorf("%d: %s, not %s", i, short(d), short(was[i]))
		}
	}
}
