package reflect_test

import (
	"slices"
	"testing"

	"plumbline/api"
	"plumbline/reflect"
)

// guarded is a copy of the list with more behind its end, in its memory, which nobody may touch.
func guarded(l []float64) []float64 {
	return append(slices.Clone(l), 1, 2, 3, 4, 5)[:len(l)]
}

func untouched(l, was []float64) bool {
	return same(l, was) && slices.Equal(l[len(l):len(l)+5], few(1, 2, 3, 4, 5))
}

// spoil writes to all of an answer, and to what lies behind it.
func spoil(l []float64) {
	l = l[:cap(l)]
	for i := range l {
		l[i] = 77
	}
}

// P0.5, rules for all layers: what is handed in stays, and the answer is new memory: asked again, the same.
func TestMadeIsNew(t *testing.T) {
	for _, source := range append(sources(19), func() float64 { return 0 }) {
		for n := 1; n < 9; n++ {
			was := many(n, source)
			x := guarded(was)
			h, beta, _ := reflect.Make(x...)
			v := slices.Clone(h.V)
			spoil(h.V)
			if !untouched(x, was) {
				t.Fatalf("%x, not %x", x, was)
			}
			made(t, x, v, h.Tau, beta)
		}
	}
}

// stays expects a call to leave what it was handed as it was, and its answer to share memory with nothing.
func stays(t *testing.T, name string, matrices []api.Matrix, l []api.Reflection, call func(m []api.Matrix, l []api.Reflection) asked) {
	t.Helper()
	var m []api.Matrix
	for _, a := range matrices {
		m = append(m, matrix(a.Rows, a.Cols, guarded(a.Data)...))
	}
	hands := cloneAll(l)
	for i := range hands {
		hands[i].V = guarded(l[i].V)
	}
	first, second := call(m, hands), call(m, hands)
	first.is(t, name, second.a)
	was := clone(first.a)
	spoil(first.a.Data)
	second.is(t, name, was)
	call(m, hands).is(t, name, was)
	for i, a := range m {
		if a.Rows != matrices[i].Rows || a.Cols != matrices[i].Cols || !untouched(a.Data, matrices[i].Data) {
			t.Fatalf("%s: %x, not %x", name, a, matrices[i])
		}
	}
	for i, h := range hands {
		if !alike(h.Tau, l[i].Tau) || !untouched(h.V, l[i].V) {
			t.Fatalf("%s: %x, not %x", name, h, l[i])
		}
	}
}

// P9.2, P9.3: also where nothing is reflected.
func TestHandedInStays(t *testing.T) {
	for _, source := range sources(20) {
		for _, tau := range few(0, minus, 1.5, nan) {
			for from := range 4 {
				a, l := anyMatrix(3, 3, source), anyReflections(1, 2, source)
				l[0].Tau = tau
				stays(t, "Left", []api.Matrix{a}, l, func(m []api.Matrix, l []api.Reflection) asked { return left(m[0], 1, from, l[0]) })
				stays(t, "Right", []api.Matrix{a}, l, func(m []api.Matrix, l []api.Reflection) asked { return right(m[0], 1, from, l[0]) })
				l = anyReflections(1+from, 3, source)
				l[0].Tau = tau
				stays(t, "Factor", nil, l, func(_ []api.Matrix, l []api.Reflection) asked { return factor(l...) })
				stays(t, "Block", []api.Matrix{a, factorOf(l)}, l, func(m []api.Matrix, l []api.Reflection) asked { return block(m[0], m[1], l...) })
			}
		}
	}
}

// P9.2, P9.3: what is handed in may share memory: all of it is as it was ahead of the call.
func TestHandedInShares(t *testing.T) {
	for _, source := range sources(21) {
		store := many(9, source)
		a, was := matrix(3, 3, store...), slices.Clone(store)
		a.Data = store
		l := []api.Reflection{{V: store[:3], Tau: 1.5}, {V: store[4:7], Tau: -0.5}, {V: store[4:7], Tau: store[0]}}
		apart := cloneAll(l)
		for _, h := range l {
			left(a, 0, 0, h).is(t, "Left", leftOf(clone(a), 0, 0, h))
			right(a, 0, 0, h).is(t, "Right", rightOf(clone(a), 0, 0, h))
		}
		factor(l...).is(t, "Factor", factorOf(apart))
		block(a, a, l...).is(t, "Block", blockOf(clone(a), clone(a), apart))
		if !same(store, was) {
			t.Fatalf("%x, not %x", store, was)
		}
	}
}
