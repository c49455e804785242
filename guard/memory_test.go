package guard_test

import (
	"slices"
	"testing"

	"plumbline/api"
	"plumbline/guard"
)

// guarded is a copy of the list with more behind its end, in its memory, which nobody may touch.
func guarded[T uint64 | float64](l []T) []T {
	return append(slices.Clone(l), 1, 2, 3, 4, 5)[:len(l)]
}

func untouched[T uint64 | float64](l, was []T, is func(x, y T) bool) bool {
	return slices.EqualFunc(l, was, is) && slices.Equal(l[len(l):len(l)+5], []T{1, 2, 3, 4, 5})
}

func equal(x, y uint64) bool { return x == y }

// What is answered is new memory: when it is written to, neither what was handed in nor another answer changes.
func TestTakenIsNew(t *testing.T) {
	for n := range 9 {
		for _, w := range [][]uint64{symmetric(n, uint64(n)), words(anyFloats(n*n, uint64(n))...)} {
			handed := guarded(w)
			a, c := guard.Square(n, handed)
			b, d := guard.Any(n, n, handed)
			e, f := guard.Square(n, handed)
			if c != f || c == api.Good && (d != c || !same(a, b) || !same(a, e)) {
				t.Fatal(n, c, d, f)
			}
			for i := range a.Data {
				a.Data[i], b.Data[i] = 5, 6
			}
			if !untouched(handed, w, equal) || c == api.Good && !slices.Equal(words(e.Data...), w) {
				t.Fatalf("%x", w)
			}
		}
	}
}

func TestScaledIsNew(t *testing.T) {
	for n := range 9 {
		l := anyFloats(n*n, uint64(n))
		a := matrix(n, n)
		a.Data = guarded(l)
		for _, p := range []int{-2000, 0, 5, 2001} {
			s, e := guard.Scale(a, p)
			again, f := guard.Scale(a, p)
			if e != f || !same(s, again) {
				t.Fatal(s, again)
			}
			before := slices.Clone(again.Data)
			for i := range s.Data {
				s.Data[i] = 7
			}
			if !untouched(a.Data, l, alike) || !slices.EqualFunc(before, again.Data, alike) {
				t.Fatal(a)
			}
		}
	}
}

// What is asked only stays as it was; and asked again, the same is answered.
func TestAskedStays(t *testing.T) {
	for n := range 9 {
		l := anyFloats(n*n, uint64(n))
		if n > 6 {
			l[n] = nan
		}
		a := matrix(n, n)
		a.Data = guarded(l)
		p, e := guard.Power(a)
		q, f := guard.Power(a)
		if p != q || e != f || guard.May(a) != guard.May(a) || guard.Finite(a.Data...) != guard.Finite(a.Data...) || !untouched(a.Data, l, alike) {
			t.Fatal(a)
		}
	}
}
