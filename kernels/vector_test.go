package kernels_test

import (
	"math"
	"testing"

	"plumbline/api"
	"plumbline/kernels"
	"plumbline/soft"
	"plumbline/view"
)

func dot(t *testing.T, x, y view.View, want float64) {
	t.Helper()
	if s, e := kernels.Dot(x, y); e != api.OK || !alike(s, want) {
		t.Fatalf("Dot %x, %x: %x %v, not %x", x.Matrix().Data, y.Matrix().Data, s, e, want)
	}
}

func asum(t *testing.T, x view.View, want float64) {
	t.Helper()
	if s, e := kernels.Asum(x); e != api.OK || !alike(s, want) {
		t.Fatalf("Asum %x: %x %v, not %x", x.Matrix().Data, s, e, want)
	}
}

func amax(t *testing.T, x view.View, place int, want float64) {
	t.Helper()
	if i, f, e := kernels.Amax(x); e != api.OK || i != place || !alike(f, want) {
		t.Fatalf("Amax %x: %d, %x %v, not %d, %x", x.Matrix().Data, i, f, e, place, want)
	}
}

// ways are vectors of the same floats: a row, a column, a column of more, a diagonal, parts that are turned.
func ways(t *testing.T, l []float64) []view.View {
	t.Helper()
	n := len(l)
	big, e := view.New(n+1, n+2)
	expect(t, "New", e, api.OK)
	big.Fill(nan)
	all := []view.View{row(t, l...), column(t, l...), row(t, l...).T()}
	for _, part := range []view.View{big.Part(0, 1, n, 1), big.Copy().Part(n, 1, 1, n), big.Copy().T().Part(1, 0, n, 1), big.Copy().Part(1, 2, n, n).Diag()} {
		for i, x := range l {
			expect(t, "Put", part.Put(i, x), api.OK)
		}
		all = append(all, part)
	}
	return all
}

// P8.1, P8.7: sums by exact numbers that are rounded once each operation; whatever the views' strides.
func TestSums(t *testing.T) {
	for round, from := range sources(11) {
		for n := range 40 {
			l, m := many(n, from), many(n, from)
			s, size := 0.0, 0.0
			for k, x := range l {
				s = soft.Add(s, soft.Mul(x, m[k]))
				size = soft.Add(size, math.Abs(x))
			}
			for i, x := range ways(t, l) {
				asum(t, x, size)
				for j, y := range ways(t, m) {
					if i < 2 || j < 2 || i == (j+round)%7 {
						dot(t, x, y, s)
						shows(t, "y", y, m...)
					}
				}
				shows(t, "x", x, l...)
			}
		}
	}
}

// The order is to be seen, and so would a fused sum be.
func TestSumsByHand(t *testing.T) {
	dot(t, row(t, 0x1p53, 1, 1), row(t, 1, 1, 1), 0x1p53)
	dot(t, row(t, 1, 1, 0x1p53), row(t, 1, 1, 1), 0x1p53+2)
	dot(t, row(t, 1+0x1p-52, -1), row(t, 1-0x1p-52, 1), 0)
	dot(t, row(t, -1, 1+0x1p-52), row(t, 1, 1-0x1p-52), 0)
	dot(t, row(t, 0x1p600, -0x1p600), row(t, 0x1p600, 0x1p600), nan)
	dot(t, row(t, 0x1p1023, 0x1p1023, -0x1p1023), row(t, 1, 1, 1), inf)
	dot(t, row(t, 0x1p-538), row(t, 0x1p-538), 0)
	dot(t, row(t, minus), row(t, 1), 0) // it begins with 0
	dot(t, row(t, inf), row(t, 0), nan)
	dot(t, row(t, inf, 3), row(t, -2, 3), math.Inf(-1))
	asum(t, row(t, 0x1p53, -1, 1), 0x1p53)
	asum(t, row(t, 1, -1, 0x1p53), 0x1p53+2)
	asum(t, column(t, math.Inf(-1), inf), inf)
	asum(t, column(t, most, -most), inf)
	asum(t, column(t, minus, minus), 0)
	asum(t, column(t, 1, nan, 2), nan)
	asum(t, column(t, -least, least), 2*least)
}

// P8.1: vectors of no places.
func TestNoPlaces(t *testing.T) {
	for _, x := range []view.View{made(t, 0, 0), made(t, 1, 0), made(t, 0, 1)} {
		asum(t, x, 0)
		amax(t, x, -1, 0)
		for _, y := range []view.View{made(t, 0, 0), made(t, 1, 0), made(t, 0, 1)} {
			dot(t, x, y, 0)
		}
	}
}

// P8.1: the first of the greatest, NaNs passed over.
func TestAmax(t *testing.T) {
	amax(t, row(t, nan, nan), -1, 0)
	amax(t, row(t, nan), -1, 0)
	amax(t, row(t, 0), 0, 0)
	amax(t, row(t, minus), 0, 0)
	amax(t, row(t, minus, 0), 0, 0)
	amax(t, row(t, nan, minus, 0), 1, 0)
	amax(t, row(t, nan, 0, nan, least), 3, least)
	amax(t, row(t, 2, -2, 2), 0, 2)
	amax(t, row(t, 1, -2, 2), 1, 2)
	amax(t, row(t, -3, 2, nan), 0, 3)
	amax(t, row(t, -most, math.Inf(-1), inf), 1, inf)
	amax(t, row(t, nan, inf, math.Inf(-1)), 1, inf)
	amax(t, row(t, 1, 1+0x1p-52, -1-0x1p-52), 1, 1+0x1p-52)
}

// P8.1
func TestAmaxOfAny(t *testing.T) {
	for _, from := range sources(12) {
		for n := range 30 {
			l := many(n, from)
			place, size := -1, 0.0
			for i := n - 1; i >= 0; i-- {
				if x := math.Abs(l[i]); x == x && (place < 0 || x >= size) {
					place, size = i, x
				}
			}
			for _, x := range ways(t, l) {
				amax(t, x, place, size)
				shows(t, "Amax", x, l...)
			}
		}
	}
}

// P8.1, P0.8: ErrNil ahead of ErrShape; beside an error all else is zero.
func TestRefusedSums(t *testing.T) {
	none := view.View{}
	eachList(2, append(shapes(3), [2]int{-1, -1}), func(l [][2]int) {
		var v []view.View
		for _, s := range l {
			m, _ := view.New(s[0], s[1]) // none, where there is no such shape
			m.Fill(2)
			v = append(v, m)
		}
		want := api.OK
		switch {
		case v[0] == none || v[1] == none:
			want = api.ErrNil
		case !vector(l[0]) || !vector(l[1]) || places(l[0]) != places(l[1]):
			want = api.ErrShape
		}
		s, e := kernels.Dot(v[0], v[1])
		expect(t, "Dot", e, want)
		if e != api.OK && !alike(s, 0) || e == api.OK && s != float64(4*places(l[0])) {
			t.Fatal("Dot", l, s)
		}
	})
	for _, s := range append(shapes(3), [2]int{-1, 0}) {
		v, made := view.New(s[0], s[1])
		v.Fill(-2)
		want := api.OK
		switch {
		case made != api.OK:
			want = api.ErrNil
		case !vector(s):
			want = api.ErrShape
		}
		f, e := kernels.Asum(v)
		i, g, d := kernels.Amax(v)
		expect(t, "Asum", e, want)
		expect(t, "Amax", d, want)
		if e != api.OK && (!alike(f, 0) || i != 0 || !alike(g, 0)) {
			t.Fatal(s, f, i, g)
		}
	}
}

// P8.2: of all shapes, whatever floats.
func TestSwap(t *testing.T) {
	for _, from := range sources(13) {
		eachList(2, shapes(4), func(l [][2]int) {
			v := fill(t, from, l)
			was := matrices(v)
			if l[0] != l[1] {
				expect(t, "Swap", kernels.Swap(v[0], v[1]), api.ErrShape)
			} else {
				expect(t, "Swap", kernels.Swap(v[0], v[1]), api.OK)
				was[0], was[1] = was[1], was[0]
			}
			shows(t, "x", v[0], was[0].Data...)
			shows(t, "y", v[1], was[1].Data...)
			expect(t, "Swap", kernels.Swap(v[0], view.View{}), api.ErrNil)
			expect(t, "Swap", kernels.Swap(view.View{}, v[1]), api.ErrNil)
			shows(t, "x", v[0], was[0].Data...)
			shows(t, "y", v[1], was[1].Data...)
		})
	}
	expect(t, "Swap", kernels.Swap(view.View{}, view.View{}), api.ErrNil)
}

// P8.2: parts of one store, that show a place both: ErrShape; that show none: each has what the other one had.
func TestSwapInOneStore(t *testing.T) {
	const n = 4
	next := stream(14)
	refused, done := 0, 0
	for _, from := range sources(15) {
		for range 400 {
			whole := made(t, n, n, many(n*n, from)...)
			twin := whole.Copy()
			s := [2]int{below(next, n), below(next, n)}
			one, other := cut(next, n, s), cut(next, n, s)
			x, y := one(whole), other(whole)
			if x.Shares(y) {
				expect(t, "Swap", kernels.Swap(x, y), api.ErrShape)
				refused++
			} else {
				a, b := x.Copy(), y.Copy()
				one(twin).Take(b)
				other(twin).Take(a)
				expect(t, "Swap", kernels.Swap(x, y), api.OK)
				done++
			}
			if !view.Same(whole, twin) {
				t.Fatal(whole.Matrix(), twin.Matrix())
			}
		}
	}
	if refused < 100 || done < 100 {
		t.Error(refused, done)
	}
}

// P8.2: itself, unless it has no places.
func TestSwapItself(t *testing.T) {
	v := made(t, 2, 2, 1, 2, 3, 4)
	expect(t, "Swap", kernels.Swap(v, v), api.ErrShape)
	expect(t, "Swap", kernels.Swap(v, v.T()), api.ErrShape)
	expect(t, "Swap", kernels.Swap(v.Row(0), v.Col(0)), api.ErrShape)
	expect(t, "Swap", kernels.Swap(v.Row(0), v.Col(0).T()), api.ErrShape)
	shows(t, "v", v, 1, 2, 3, 4)
	expect(t, "Swap", kernels.Swap(v.Row(0), v.Row(1)), api.OK)
	shows(t, "v", v, 3, 4, 1, 2)
	expect(t, "Swap", kernels.Swap(made(t, 0, 3), made(t, 0, 3)), api.OK)
	e := made(t, 0, 3)
	expect(t, "Swap", kernels.Swap(e, e), api.OK)
}
