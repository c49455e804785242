package kernels_test

import (
	"testing"

	"plumbline/api"
	"plumbline/kernels"
	"plumbline/view"
)

// below answers a number from 0 to n - 1.
func below(next func() uint64, n int) int { return int(next() >> 8 % uint64(n)) }

// cut makes a part of the wanted shape out of a square view of n rows: a block, turned or not, a piece of a row, of a column, of the diagonal.
func cut(next func() uint64, n int, want [2]int) func(v view.View) view.View {
	i, j, turned, diag := below(next, n-want[0]+1), below(next, n-want[1]+1), next()>>8%2 == 0, next()>>8%3 == 0
	switch {
	case diag && want[1] == 1:
		return func(v view.View) view.View { return v.Diag().Part(i, 0, want[0], 1) }
	case diag && want[0] == 1:
		return func(v view.View) view.View { return v.Diag().T().Part(0, j, 1, want[1]) }
	case turned:
		return func(v view.View) view.View { return v.T().Part(i, j, want[0], want[1]) }
	}
	return func(v view.View) view.View { return v.Part(i, j, want[0], want[1]) }
}

// P8.2 to P8.6: parts of one store, which show places of each other: what is read is as it was ahead of the call, and nothing but the written part is written.
func TestShared(t *testing.T) {
	const n = 5
	for _, k := range writers() {
		next, fits, shared := stream(7), k.fits(4), 0
		for round, from := range sources(8) {
			for range 250 {
				whole := made(t, n, n, many(n*n, from)...)
				twin := whole.Copy()
				var l []view.View
				var target view.View
				for i, s := range fits[below(next, len(fits))] {
					part := cut(next, n, s)
					if l = append(l, part(whole)); i == k.written {
						target = part(twin)
					}
				}
				for i, v := range l {
					if i != k.written && v.Shares(target) {
						t.Fatal("twins share")
					}
					if i != k.written && v.Shares(l[k.written]) {
						shared++
					}
				}
				a, b := from(), from()
				want := k.want(a, b, matrices(l))
				expect(t, "Take", target.Take(want), api.OK)
				expect(t, k.name, k.run(a, b, l), api.OK)
				if !view.Same(whole, twin) {
					t.Fatalf("%s, %d: %x, not %x", k.name, round, whole.Matrix().Data, twin.Matrix().Data)
				}
			}
		}
		if k.views > 1 && shared < 300 {
			t.Error(k.name, shared)
		}
	}
}

// A call that is refused writes nothing, also where its views are parts of one store.
func TestRefusedShared(t *testing.T) {
	const n = 4
	next, from := stream(9), sources(10)[0]
	for _, k := range writers() {
		whole := made(t, n, n, many(n*n, from)...)
		was := whole.Copy()
		for range 300 {
			var l []view.View
			for range k.views {
				l = append(l, cut(next, n, [2]int{below(next, n+1), below(next, n+1)})(whole))
			}
			if k.fit(shapesOf(l)) {
				continue
			}
			expect(t, k.name, k.run(2, 3, l), api.ErrShape)
			if !view.Same(whole, was) {
				t.Fatal(k.name)
			}
		}
	}
}

// The same view in each place.
func TestItself(t *testing.T) {
	m := func() view.View { return made(t, 2, 2, 1, 2, 3, 4) }
	v := m()
	expect(t, "Gemm", kernels.Gemm(1, v, v, 1, v), api.OK)
	shows(t, "Gemm", v, 8, 12, 18, 26)
	v = m()
	expect(t, "Gemm turned", kernels.Gemm(1, v, v.T(), 0, v.T()), api.OK)
	shows(t, "Gemm turned", v, 5, 11, 11, 25)
	v = m()
	expect(t, "Syr2k", kernels.Syr2k(1, v, v, 0, v), api.OK)
	shows(t, "Syr2k", v, 10, 2, 22, 50)
	v = m()
	expect(t, "Trmm", kernels.Trmm(false, false, v, v), api.OK)
	shows(t, "Trmm", v, 1, 2, 15, 22)
	v = m()
	expect(t, "Trmm turned", kernels.Trmm(true, true, v, v.T()), api.OK)
	shows(t, "Trmm turned", v, 5, 2, 11, 4)
	v = m()
	expect(t, "Axpy", kernels.Axpy(2, v.Row(0), v.Col(0)), api.OK)
	shows(t, "Axpy", v, 3, 2, 7, 4)
	v = m()
	expect(t, "Gemv", kernels.Gemv(1, v, v.Row(0), 0, v.Row(0)), api.OK)
	shows(t, "Gemv", v, 5, 11, 3, 4)
	v = m()
	expect(t, "Symv", kernels.Symv(1, v, v.Diag(), 1, v.Diag()), api.OK)
	shows(t, "Symv", v, 14, 2, 3, 23)
	v = m()
	expect(t, "Ger", kernels.Ger(1, v.Row(0), v.Col(1), v), api.OK)
	shows(t, "Ger", v, 3, 6, 7, 12)
	v = m()
	expect(t, "Syr2", kernels.Syr2(1, v.Col(0), v.Row(1), v), api.OK)
	shows(t, "Syr2", v, 7, 2, 16, 28)
	v = m()
	expect(t, "Scal", kernels.Scal(3, v.T().Row(1)), api.OK)
	shows(t, "Scal", v, 1, 6, 3, 12)
}
