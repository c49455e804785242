package view_test

import (
	"math"
	"slices"
	"testing"

	"plumbline/api"
	"plumbline/view"
)

// P7.5: one row, one column, or neither rows nor columns.
func TestVector(t *testing.T) {
	for _, s := range someSizes() {
		v := countedView(t, s[0], s[1])
		want := s[0] == 1 || s[1] == 1 || s[0] == 0 && s[1] == 0
		if v.Vector() != want || v.T().Vector() != want || v.Copy().Vector() != want || v.Part(0, 0, s[0], s[1]).Vector() != want {
			t.Error(s, v.Vector())
		}
		if !v.Diag().Vector() || s[0] > 0 && !v.Row(0).Vector() || s[1] > 0 && !v.Col(0).Vector() {
			t.Error(s)
		}
	}
}

// meet tells if there is a place that both show.
func meet(a, b model) bool {
	for _, c := range a.all() {
		if slices.Contains(b.all(), c) {
			return true
		}
	}
	return false
}

// P7.5: each two parts of one store, empty ones among them.
func TestShares(t *testing.T) {
	parts := newBoth(t, 3, 3, counted(9)).parts()
	for _, p := range parts {
		for _, q := range parts {
			if p.v.Shares(q.v) != meet(p.m, q.m) {
				t.Fatalf("%v and %v: %v", p.m.floats(), q.m.floats(), p.v.Shares(q.v))
			}
		}
	}
}

// P7.5: of one store, but without a place that both show; also where the rows, or the columns, of one lie about the other one's.
func TestSharesNot(t *testing.T) {
	v := countedView(t, 4, 4)
	for _, x := range [][2]view.View{
		{v.Row(0), v.Row(1)}, {v.Col(0), v.Col(3)}, {v.Part(0, 0, 2, 2), v.Part(2, 2, 2, 2)}, {v.Part(0, 0, 2, 4), v.Part(2, 0, 2, 4)},
		{v.Part(0, 1, 1, 3), v.Part(1, 0, 3, 1)}, {v.Diag(), v.Part(0, 1, 1, 3)}, {v.Diag(), v.Part(0, 1, 3, 3).Diag()},
		{v.Part(0, 0, 0, 4), v}, {v.Part(0, 0, 0, 4), v.Part(0, 0, 0, 4)}, {v.Part(4, 4, 0, 0), v.Part(4, 4, 0, 0)}, {v.Part(1, 1, 3, 0), v.Part(1, 1, 0, 3)},
	} {
		if x[0].Shares(x[1]) || x[1].Shares(x[0]) || x[0].T().Shares(x[1]) {
			t.Error(x[0].Matrix(), x[1].Matrix())
		}
	}
	if !v.Shares(v) || !v.T().Shares(v.Part(3, 3, 1, 1)) || !v.Diag().Shares(v.Row(2)) {
		t.Error("they share")
	}
}

// P7.5: two stores with the same floats, of the same matrix, or copied; empty ones, too.
func TestSharesOfTwoStores(t *testing.T) {
	for _, s := range someSizes() {
		m := matrix(s[0], s[1], counted(s[0]*s[1])...)
		a, _ := view.Of(m)
		b, _ := view.Of(m)
		c, d := a.Copy(), made(t, s[0], s[1], a.Matrix().Data...)
		for _, o := range []view.View{b, c, d, b.T()} {
			if a.Shares(o) || o.Shares(a) || a.Diag().Shares(o.Diag()) {
				t.Fatal(s)
			}
		}
		if a.Shares(a) != (s[0]*s[1] > 0) {
			t.Fatal(s)
		}
	}
}

// visit is what All comes to.
type visit struct {
	p [2]int
	x float64
}

func gone(v view.View, most int) []visit {
	var l []visit
	for p, x := range v.All() {
		if len(l) == most {
			break
		}
		l = append(l, visit{p, x})
	}
	return l
}

// P7.5: all places, row by row; left at once, in the midst, and behind the last one; each time from the beginning.
func TestAll(t *testing.T) {
	for _, p := range newBoth(t, 3, 4, anyFloats(12, 11)).parts() {
		l := p.m.floats()
		for most := range len(l) + 2 {
			got := gone(p.v, most)
			if len(got) != min(most, len(l)) {
				t.Fatal(got)
			}
			for n, g := range got {
				if g.p != [2]int{n / p.m.cols, n % p.m.cols} || !alike(g.x, l[n]) {
					t.Fatal(got, l)
				}
			}
		}
	}
}

// P7.5: what was answered once is gone through twice, and within itself.
func TestAllAgain(t *testing.T) {
	v := countedView(t, 2, 3)
	all := v.All()
	for range all {
		break
	}
	for range 2 {
		n := 0
		for p, x := range all {
			inner := 0
			for q, y := range all {
				if inner++; y != float64(inner) || q != [2]int{(inner - 1) / 3, (inner - 1) % 3} {
					t.Fatal(q, y)
				}
			}
			if n++; x != float64(n) || p != [2]int{(n - 1) / 3, (n - 1) % 3} || inner != 6 {
				t.Fatal(p, x, inner)
			}
		}
		if n != 6 {
			t.Fatal(n)
		}
	}
}

// P7.5: when it is left nothing more is handed on.
func TestAllLeft(t *testing.T) {
	for stop := 1; stop <= 6; stop++ {
		n := 0
		countedView(t, 2, 3).All()(func([2]int, float64) bool {
			n++
			return n < stop
		})
		if n != stop {
			t.Error(n, stop)
		}
	}
}

// P7.5: floats are as they are when they are come to: set behind All was answered, and while it is gone through, ahead of it and behind it.
func TestAllOfWhatIsSet(t *testing.T) {
	v := countedView(t, 3, 3)
	all := v.T().All()
	v.Set(0, 0, 10)
	var l []float64
	for p, x := range all {
		l = append(l, x)
		v.T().Set(p[0], p[1], -1)
		if p == [2]int{0, 2} {
			v.Fill(5)
			v.Set(2, 2, 6)
		}
		if p == [2]int{1, 1} {
			v.Set(0, 2, nan)
		}
	}
	if want := []float64{10, 4, 7, 5, 5, 5, nan, 5, 6}; !slices.EqualFunc(l, want, alike) {
		t.Error(l)
	}
	shows(t, "behind it", v, 3, 3, 5, -1, -1, 5, -1, -1, 5, -1, -1)
}

// P7.5: NaNs are one; 0 and -0 are two; each other float is told bit by bit.
func TestSameFloats(t *testing.T) {
	l := append(nans(), 0, minus, 1, -1, math.Nextafter(1, 2), least, -least, inf, -inf, most)
	for i, x := range l {
		for j, y := range l {
			want := i == j || i < 7 && j < 7
			a, b := made(t, 1, 1, x), made(t, 1, 1, y)
			if view.Same(a, b) != want {
				t.Errorf("%x, %x", x, y)
			}
			a, b = made(t, 2, 2, 1, nan, x, 4), made(t, 2, 2, 1, nans()[i%7], y, 4)
			if view.Same(a, b) != want || view.Same(a.T(), b.T()) != want || view.Same(a.Diag(), b.Diag()) != true {
				t.Errorf("%x, %x", x, y)
			}
		}
	}
}

// P7.5: one float that is another one, at each place.
func TestSameAtEachPlace(t *testing.T) {
	for _, p := range newBoth(t, 3, 4, anyFloats(12, 12)).parts() {
		c := p.v.Copy()
		if !view.Same(p.v, c) || !view.Same(c, p.v) || !view.Same(p.v, p.v) {
			t.Fatal(p.m.floats())
		}
		for i := range p.m.rows {
			for j := range p.m.cols {
				was := c.At(i, j)
				c.Set(i, j, 0x1.23p-7)
				if view.Same(p.v, c) || view.Same(c, p.v) {
					t.Fatal(i, j, p.m.floats())
				}
				c.Set(i, j, was)
			}
		}
	}
}

// P7.5: as many rows and columns; also where there is no float.
func TestSameSizes(t *testing.T) {
	for _, s := range someSizes() {
		for _, r := range someSizes() {
			a := made(t, s[0], s[1], make([]float64, s[0]*s[1])...)
			b := made(t, r[0], r[1], make([]float64, r[0]*r[1])...)
			if view.Same(a, b) != (s == r) {
				t.Fatal(s, r)
			}
		}
	}
	v := countedView(t, 4, 4)
	if view.Same(v.Part(0, 0, 0, 2), v.Part(0, 0, 0, 3)) || view.Same(v.Part(0, 0, 0, 2), v.Part(0, 0, 2, 0)) || !view.Same(v.Part(0, 0, 0, 2), v.Part(4, 2, 0, 2)) || view.Same(v.Row(0), v.Col(0)) {
		t.Error("parts")
	}
	zero, _ := view.New(0, 0)
	if view.Same(zero, view.View{}) || view.Same(view.View{}, zero) || !view.Same(zero, v.Part(1, 1, 0, 0)) || !view.Same(view.View{}, v.Col(4)) {
		t.Error("none")
	}
}

// P7.5: a symmetric one is the same, turned; another one is not.
func TestSameOfOneStore(t *testing.T) {
	v := countedView(t, 3, 3)
	if view.Same(v, v.T()) || view.Same(v.Row(0), v.Row(1)) {
		t.Error("same")
	}
	expect(t, "Set", v.Take(made(t, 3, 3, 1, 2, 3, 2, 4, 5, 3, 5, 6)), api.OK)
	if !view.Same(v, v.T()) || !view.Same(v.Row(2), v.Col(2).T()) {
		t.Error("not the same")
	}
}
