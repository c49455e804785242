package tridiag_test

import (
	"slices"
	"testing"

	"plumbline/api"
)

// guarded is a copy of the list with more behind its end, in its memory, which nobody may touch.
func guarded(l []float64) []float64 {
	return append(slices.Clone(l), 1, 2, 3, 4, 5)[:len(l)]
}

func untouched(l, was []float64) bool {
	return same(l, was) && slices.Equal(l[len(l):len(l)+5], few(1, 2, 3, 4, 5))
}

// spoil writes to all of an answer, and to what lies behind it.
func spoil(l []float64) {
	l = l[:cap(l)]
	for i := range l {
		l[i] = 77
	}
}

// lists are all of an answer's.
func (got reduced) lists() [][]float64 {
	l := [][]float64{got.t.D, got.t.E}
	for _, h := range got.l {
		l = append(l, h.V)
	}
	return l
}

// P10.1, rules for all layers: what is handed in stays; the answer is new memory, of which no two lists share any.
func TestReduceMemory(t *testing.T) {
	for _, source := range append(sources(17), func() float64 { return 0 }) {
		for n := range 8 {
			for _, a := range []api.Matrix{symmetric(n, source), anySquare(n, source), tridiagonal(anyTri(n, source))} {
				was := clone(a)
				a.Data = guarded(a.Data)
				first, second := reduce(a), reduce(a)
				want := first.clone()
				for i, l := range first.lists() {
					spoil(l)
					for k, other := range first.lists() {
						if k > i && !same(other, want.lists()[k]) {
							t.Fatalf("the list %d changed by %d: %x", k, i, other)
						}
					}
				}
				reflections := first.l[:cap(first.l)]
				for i := range reflections {
					reflections[i] = reflection(77)
				}
				second.is(t, a, want)
				reduce(a).is(t, a, want)
				if a.Rows != n || a.Cols != n || !untouched(a.Data, was.Data) {
					t.Fatalf("%x, not %x", a, was)
				}
			}
		}
	}
}

// stays expects a call to leave the lists as they were, and its answer to share memory with nothing.
func stays(t *testing.T, name string, lists [][]float64, call func(l [][]float64) asked) {
	t.Helper()
	var l [][]float64
	for _, x := range lists {
		l = append(l, guarded(x))
	}
	first, second := call(l), call(l)
	first.is(t, name, second.a)
	want := clone(first.a)
	spoil(first.a.Data)
	second.is(t, name, want)
	call(l).is(t, name, want)
	for i, x := range lists {
		if !untouched(l[i], x) {
			t.Fatalf("%s: %x, not %x", name, l[i], x)
		}
	}
}

// P10.2, P10.3: also where nothing is reflected.
func TestHandedInStays(t *testing.T) {
	for _, source := range wild(18) {
		for n := range 7 {
			r := anyTri(n, source)
			stays(t, "Full", [][]float64{r.D, r.E}, func(l [][]float64) asked { return full(tri(l[0], l[1]...)) })
			for _, tau := range few(0, minus, 1.5, nan) {
				var lists [][]float64
				for _, h := range anyReflections(n, source) {
					lists = append(lists, h.V)
				}
				stays(t, "Q", lists, func(l [][]float64) asked {
					var made []api.Reflection
					for _, v := range l {
						made = append(made, reflection(tau, v...))
					}
					was := cloneAll(made)
					got := q(n, made...)
					if !sameReflections(made, was) {
						t.Fatal(made, was)
					}
					return got
				})
			}
		}
	}
}

// P10.2, P10.3: what is handed in may share memory.
func TestHandedInShares(t *testing.T) {
	for _, source := range wild(19) {
		store := many(9, source)
		was := slices.Clone(store)
		r := tri(store[:4], store[1:4]...)
		full(r).is(t, "Full", tridiagonal(tri(slices.Clone(r.D), slices.Clone(r.E)...)))
		l := []api.Reflection{{V: store[:4], Tau: 1.5}, {V: store[:3], Tau: -0.5}, {V: store[2:4], Tau: store[0]}}
		q(5, l...).is(t, "Q", qOf(5, cloneAll(l)))
		a := matrix(3, 3, store...)
		if got := reduce(a); got.e == api.OK {
			got.is(t, a, said().reduces(clone(a)))
			q(3, got.l...).is(t, "Q", qOf(3, cloneAll(got.l)))
			q(3, got.l...).is(t, "Q", qOf(3, cloneAll(got.l)))
		}
		if !same(store, was) {
			t.Fatalf("%x, not %x", store, was)
		}
	}
}

// What is answered may be handed in again: the form, as a matrix, is its own form.
func TestAgain(t *testing.T) {
	for _, source := range ordinary(20) {
		for n := range 8 {
			got := reduce(symmetric(n, source))
			again := reduce(full(got.t).a)
			again.is(t, full(got.t).a, reduced{t: got.t, l: none(n)})
		}
	}
}

// P0.3, P0.9: whatever bits, each call ends, and answers the same again.
func TestSameAgain(t *testing.T) {
	for _, source := range wild(21) {
		for n := range 9 {
			a, l, r := anySquare(n, source), anyReflections(n, source), anyTri(n, source)
			reduce(a).is(t, a, reduce(a))
			q(n, l...).is(t, "Q", q(n, l...).a)
			full(r).is(t, "Full", full(r).a)
		}
	}
}
