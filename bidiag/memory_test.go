package bidiag_test

import (
	"slices"
	"testing"

	"plumbline/api"
)

// guarded is a copy of the list with more behind its end, in its memory, which nobody may touch.
func guarded(l []float64) []float64 {
	return append(slices.Clone(l), 1, 2, 3, 4, 5)[:len(l)]
}

func untouched(l, was []float64) bool {
	return same(l, was) && slices.Equal(l[len(l):len(l)+5], few(1, 2, 3, 4, 5))
}

// spoil writes to all of an answer, and to what lies behind it.
func spoil(l []float64) {
	l = l[:cap(l)]
	for i := range l {
		l[i] = 77
	}
}

// spoilAll writes to all reflections themselves.
func spoilAll(l []api.Reflection) {
	l = l[:cap(l)]
	for i := range l {
		l[i] = reflection(77)
	}
}

// all are all reflections of an answer, in a list of their own.
func (got reduced) all() []api.Reflection { return slices.Concat(got.h, got.g) }

// lists are all of an answer's.
func (got reduced) lists() [][]float64 {
	l := [][]float64{got.b.D, got.b.E}
	for _, h := range got.all() {
		l = append(l, h.V)
	}
	return l
}

// P11.1, rules for all layers: what is handed in stays; the answer is new memory, of which no two lists share any.
func TestReduceMemory(t *testing.T) {
	for _, source := range append(sources(22), func() float64 { return 0 }) {
		eachShape(6, func(m, n int) {
			for _, a := range []api.Matrix{anyMatrix(m, n, source), bidiagonal(m, anyBi(n, source))} {
				was := clone(a)
				a.Data = guarded(a.Data)
				first, second := reduce(a), reduce(a)
				want := first.clone()
				for i, l := range first.lists() {
					spoil(l)
					for k, other := range first.lists() {
						if k > i && !same(other, want.lists()[k]) {
							t.Fatalf("the list %d changed by %d: %x", k, i, other)
						}
					}
				}
				spoilAll(first.h)
				for k, g := range first.g {
					if !alike(g.Tau, want.g[k].Tau) {
						t.Fatalf("both lists share the reflection %d: %v", k, g)
					}
				}
				spoilAll(first.g)
				second.is(t, a, want)
				reduce(a).is(t, a, want)
				if a.Rows != m || a.Cols != n || !untouched(a.Data, was.Data) {
					t.Fatalf("%x, not %x", a, was)
				}
			}
		})
	}
}

// stays expects a call to leave the lists as they were, and its answer to share memory with nothing.
func stays(t *testing.T, name string, lists [][]float64, call func(l [][]float64) asked) {
	t.Helper()
	var l [][]float64
	for _, x := range lists {
		l = append(l, guarded(x))
	}
	first, second := call(l), call(l)
	first.is(t, name, second.a)
	want := clone(first.a)
	spoil(first.a.Data)
	second.is(t, name, want)
	call(l).is(t, name, want)
	for i, x := range lists {
		if !untouched(l[i], x) {
			t.Fatalf("%s: %x, not %x", name, l[i], x)
		}
	}
}

// reflectionsStay likewise, of what is made of reflections of that Tau.
func reflectionsStay(t *testing.T, name string, tau float64, l []api.Reflection, call func(l ...api.Reflection) asked) {
	t.Helper()
	var lists [][]float64
	for _, h := range l {
		lists = append(lists, h.V)
	}
	stays(t, name, lists, func(l [][]float64) asked {
		var made []api.Reflection
		for _, v := range l {
			made = append(made, reflection(tau, v...))
		}
		was := cloneAll(made)
		got := call(made...)
		if !sameReflections(made, was) {
			t.Fatal(made, was)
		}
		return got
	})
}

// P11.2, P11.3: also where nothing is reflected.
func TestHandedInStays(t *testing.T) {
	for _, source := range wild(23) {
		eachShape(5, func(m, n int) {
			for _, tau := range few(0, minus, 1.5, nan) {
				h, g := of(m, n, source)
				reflectionsStay(t, "Q", tau, h, func(l ...api.Reflection) asked { return q(m, n, l...) })
				reflectionsStay(t, "P", tau, g, func(l ...api.Reflection) asked { return p(n, l...) })
			}
			b := anyBi(n, source)
			stays(t, "Full", [][]float64{b.D, b.E}, func(l [][]float64) asked { return full(bi(l[0], l[1]...)) })
			stays(t, "Product", [][]float64{many(m*n, source), b.D, b.E, many(n*n, source)}, func(l [][]float64) asked {
				return product(matrix(m, n, l[0]...), bi(l[1], l[2]...), matrix(n, n, l[3]...))
			})
		})
	}
}

// What is refused stays, too.
func TestRefusedStays(t *testing.T) {
	l := guarded(few(1, 2, nan, 4))
	was := slices.Clone(l)
	reduce(matrix(2, 2, l...)).fails(t, api.ErrFinite)
	reduce(matrix(1, 4, l...)).fails(t, api.ErrShape)
	reduce(matrix(4, 2, l...)).fails(t, api.ErrArg)
	q(4, 2, reflection(1, l...)).fails(t, "Q", api.ErrArg)
	p(5, reflection(1, l...)).fails(t, "P", api.ErrArg)
	full(bi(l, l...)).fails(t, "Full", api.ErrArg)
	product(matrix(2, 2, l...), bi(l, l[1:]...), matrix(2, 2, l...)).fails(t, "Product", api.ErrShape)
	if !untouched(l, was) {
		t.Fatalf("%x, not %x", l, was)
	}
}

// P11.1 to P11.3: what is handed in may share memory, and what is answered shares none with it.
func TestHandedInShares(t *testing.T) {
	for _, source := range wild(24) {
		store := many(9, source)
		was := slices.Clone(store)
		b := bi(store[:3], store[1:3]...)
		full(b).is(t, "Full", bidiagonal(3, bi(slices.Clone(b.D), slices.Clone(b.E)...)))
		a := matrix(3, 3, store...)
		product(a, b, a).is(t, "Product", productOf(clone(a), b, clone(a)))
		l := []api.Reflection{{V: store[:5], Tau: 1.5}, {V: store[:4], Tau: -0.5}, {V: store[2:5], Tau: store[0]}}
		q(5, 3, l...).is(t, "Q", qOf(5, 3, cloneAll(l)))
		p(5, l[1], l[2], api.Reflection{V: store[:2], Tau: 1}).is(t, "P", pOf(5, append(cloneAll(l[1:]), reflection(1, store[:2]...))))
		q(3, 1, reflection(store[3], store[:3]...)).fails(t, "Q", api.OK)
		if got := reduce(a); got.e == api.OK {
			got.is(t, a, said().reduces(clone(a)))
			kept := got.clone()
			for range 2 { // the answers may be handed in as they are, together
				q(3, 3, got.h...).is(t, "Q", qOf(3, 3, kept.h))
				p(3, got.g...).is(t, "P", pOf(3, kept.g))
				full(got.b).is(t, "Full", bidiagonal(3, kept.b))
			}
			got.is(t, a, kept)
		}
		if !same(store, was) {
			t.Fatalf("%x, not %x", store, was)
		}
	}
}

// What is answered may be handed in again: the form, as a matrix, is its own form.
func TestAgain(t *testing.T) {
	for _, source := range ordinary(25) {
		eachShape(7, func(m, n int) {
			got := reduce(anyMatrix(m, n, source))
			a := full(got.b).a
			reduce(a).is(t, a, reduced{b: got.b, h: none(n, n), g: none(max(n-2, 0), n-1)})
		})
	}
}

// P0.3, P0.9: whatever bits, each call ends, and answers the same again.
func TestSameAgain(t *testing.T) {
	for _, source := range wild(26) {
		for m := range 7 {
			for n := range 7 {
				a, b, r := anyMatrix(m, n, source), anyBi(n, source), anyMatrix(n, n, source)
				reduce(a).is(t, a, reduce(a))
				full(b).is(t, "Full", full(b).a)
				product(a, b, r).is(t, "Product", product(a, b, r).a)
				if m >= n {
					h, g := of(m, n, source)
					q(m, n, h...).is(t, "Q", q(m, n, h...).a)
					p(n, g...).is(t, "P", p(n, g...).a)
				}
			}
		}
	}
}
