package kernels_test

import (
	"testing"

	"plumbline/api"
	"plumbline/kernels"
	"plumbline/view"
)

// P8.7: Gemv is Gemm with one column, whatever floats.
func TestGemvIsGemm(t *testing.T) {
	for _, from := range sources(16) {
		for _, s := range append(shapes(4), [2]int{50, 70}) {
			m, x, y := many(s[0]*s[1], from), many(s[1], from), many(s[0], from)
			a, b := from(), from()
			v, o := column(t, y...), column(t, y...)
			expect(t, "Gemv", kernels.Gemv(a, made(t, s[0], s[1], m...), column(t, x...), b, v), api.OK)
			expect(t, "Gemm", kernels.Gemm(a, made(t, s[0], s[1], m...), column(t, x...), b, o), api.OK)
			if !view.Same(v, o) {
				t.Fatal(s, a, b)
			}
		}
	}
}

// P8.7: the floats alone count, not the strides: parts of greater stores, turned ones, the same answers.
func TestStrides(t *testing.T) {
	next := stream(17)
	for _, k := range writers() {
		for _, from := range sources(18) {
			for _, l := range k.fits(3) {
				first := fill(t, from, l)
				var second []view.View
				for i, s := range l {
					big := made(t, 6, 6, many(36, from)...)
					part := cut(next, 6, s)(big)
					expect(t, "Take", part.Take(first[i]), api.OK)
					second = append(second, part)
				}
				a, b := from(), from()
				expect(t, k.name, k.run(a, b, first), api.OK)
				expect(t, k.name, k.run(a, b, second), api.OK)
				for i, v := range first {
					if !view.Same(v, second[i]) {
						t.Fatal(k.name, l)
					}
				}
			}
		}
	}
}

// whole are numbers whose products' sums, 512 of them, lie below 2^53.
func whole(seed uint64) func() float64 {
	next := stream(seed)
	return func() float64 { return float64(int64(next()>>8%0x3FFFFF) - 0x1FFFFF) }
}

// P8.7: sums of products of whole numbers are exact, up to the greatest sizes.
func TestWholeNumbers(t *testing.T) {
	const n = api.MaxSize
	from := whole(19)
	l, m := many(n, from), many(n, from)
	s, size := int64(0), int64(0)
	for k := range l {
		s += int64(l[k]) * int64(m[k])
		size += max(int64(l[k]), -int64(l[k]))
	}
	dot(t, row(t, l...), column(t, m...), float64(s))
	asum(t, row(t, l...), float64(size))
}

// exactly expects one place to be the sum of products.
func exactly(t *testing.T, call string, got float64, x, y view.View) {
	t.Helper()
	s := int64(0)
	for k := range x.Len() {
		s += int64(x.Get(k)) * int64(y.Get(k))
	}
	if got != float64(s) {
		t.Fatalf("%s: %v, not %v", call, got, s)
	}
}

// P8.7, P0.3: matrices of the greatest size.
func TestGreatest(t *testing.T) {
	const n = api.MaxSize
	l := fill(t, whole(20), [][2]int{{n, n}, {n, n}, {n, n}})
	m, o, r := l[0], l[1], l[2]
	expect(t, "Gemm", kernels.Gemm(1, m, o, 0, r), api.OK)
	for _, p := range [][2]int{{0, 0}, {0, n - 1}, {n - 1, 0}, {n - 1, n - 1}, {17, 333}} {
		exactly(t, "Gemm", r.At(p[0], p[1]), m.Row(p[0]), o.Col(p[1]))
	}
	was := r.Copy()
	expect(t, "Syr2k", kernels.Syr2k(0.5, m, m, 0, r), api.OK)
	for _, p := range [][2]int{{0, 0}, {n - 1, 0}, {n - 1, n - 1}, {333, 17}} {
		exactly(t, "Syr2k", r.At(p[0], p[1]), m.Row(p[0]), m.Row(p[1]))
	}
	if r.At(17, 333) != was.At(17, 333) || r.At(0, n-1) != was.At(0, n-1) {
		t.Error("Syr2k wrote an upper place")
	}
	x, y := o.Col(3).Copy(), o.Row(5).Copy()
	expect(t, "Gemv", kernels.Gemv(1, m, x, 0, y), api.OK)
	exactly(t, "Gemv", y.Get(n-1), m.Row(n-1), x)
	was = o.Copy()
	expect(t, "Trmm", kernels.Trmm(true, false, m, o), api.OK)
	exactly(t, "Trmm", o.At(300, 7), m.Row(300).Part(0, 300, 1, n-300), was.Col(7).Part(300, 0, n-300, 1))
	exactly(t, "Trmm", o.At(n-1, n-1), m.Row(n-1).Part(0, n-1, 1, 1), was.Col(n-1).Part(n-1, 0, 1, 1))
}
