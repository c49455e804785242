package kernels_test

import (
	"slices"
	"testing"

	"plumbline/api"
	"plumbline/view"
)

// want is what the written view is to show.
func (k kernel) want(a, b float64, l []api.Matrix) view.View {
	v, _ := view.Of(l[k.written])
	for i := range v.Rows() {
		for j := range v.Cols() {
			if x, is := k.at(a, b, l, i, j); is {
				v.Set(i, j, x)
			}
		}
	}
	return v
}

func matrices(l []view.View) []api.Matrix {
	var all []api.Matrix
	for _, v := range l {
		all = append(all, v.Matrix())
	}
	return all
}

func shapesOf(l []view.View) [][2]int {
	var all [][2]int
	for _, m := range matrices(l) {
		all = append(all, shape(m))
	}
	return all
}

// apart does the call on views of which none shares a place with another one.
func (k kernel) apart(t *testing.T, a, b float64, l []view.View) {
	t.Helper()
	was := matrices(l)
	if !k.fit(shapesOf(l)) {
		expect(t, k.name, k.run(a, b, l), api.ErrShape)
		k.stay(t, was, l)
		return
	}
	want := k.want(a, b, was)
	expect(t, k.name, k.run(a, b, l), api.OK)
	if !view.Same(l[k.written], want) {
		t.Fatalf("%s of %x, %x, %x: %x, not %x", k.name, a, b, was, l[k.written].Matrix(), want.Matrix())
	}
	was[k.written] = want.Matrix()
	k.stay(t, was, l)
}

// stay expects the views to show what they did.
func (k kernel) stay(t *testing.T, was []api.Matrix, l []view.View) {
	t.Helper()
	for i, m := range matrices(l) {
		if shape(m) != shape(was[i]) || !slices.EqualFunc(m.Data, was[i].Data, alike) {
			t.Fatalf("%s: %d was written: %x, not %x", k.name, i, m, was[i])
		}
	}
}

// fill makes a view of new floats for each shape.
func fill(t *testing.T, from func() float64, l [][2]int) []view.View {
	t.Helper()
	var all []view.View
	for _, s := range l {
		all = append(all, made(t, s[0], s[1], many(s[0]*s[1], from)...))
	}
	return all
}

// P8.2 to P8.6: all shapes, such as fit and such as do not: of no rows, of no columns, of one, rows and columns as vectors.
func TestEachShape(t *testing.T) {
	from := sources(1)[0]
	for _, k := range writers() {
		n := 0
		eachList(k.views, shapes(3), func(l [][2]int) {
			k.apart(t, 1.3, -0.7, fill(t, from, l))
			if k.fit(l) {
				n++
			}
		})
		if n < 5 {
			t.Error(k.name, n)
		}
	}
}

// fits are lists of shapes that fit, of at most n rows and columns.
func (k kernel) fits(n int) [][][2]int {
	var all [][][2]int
	eachList(k.views, shapes(n), func(l [][2]int) {
		if k.fit(l) {
			all = append(all, l)
		}
	})
	return all
}

// P8.2 to P8.6, P0.5, P0.9: floats of all kinds, and a and b of all kinds.
func TestEachFloat(t *testing.T) {
	for _, k := range writers() {
		fits := k.fits(4)
		next := stream(2)
		for _, from := range sources(3) {
			for _, a := range numbers() {
				for range 6 {
					l := fits[next()>>8%uint64(len(fits))]
					b := numbers()[next()>>8%uint64(len(numbers()))]
					k.apart(t, a, b, fill(t, from, l))
					k.apart(t, b, a, fill(t, from, l))
				}
			}
		}
	}
}

// Longer sums, whose order is to be seen.
func TestLongSums(t *testing.T) {
	shapes := map[string][][2]int{
		"Scal": {{1, 300}}, "Axpy": {{1, 300}, {300, 1}}, "Gemv": {{5, 300}, {300, 1}, {1, 5}}, "Symv": {{40, 40}, {1, 40}, {40, 1}},
		"Ger": {{40, 1}, {1, 30}, {40, 30}}, "Syr2": {{40, 1}, {1, 40}, {40, 40}}, "Gemm": {{9, 60}, {60, 7}, {9, 7}}, "Syr2k": {{9, 60}, {9, 60}, {9, 9}},
	}
	for _, k := range writers() {
		l := shapes[k.name]
		if l == nil {
			l = [][2]int{{30, 30}, {30, 4}}
		}
		if !k.fit(l) {
			t.Fatal(k.name)
		}
		for _, from := range sources(4) {
			k.apart(t, 1, 1, fill(t, from, l))
			k.apart(t, 0.3, -1.7, fill(t, from, l))
		}
	}
}

// Each of the views, some of them and all of them, may be none: whatever the shapes, ErrNil.
func TestEachNone(t *testing.T) {
	from := sources(5)[0]
	for _, k := range writers() {
		eachList(k.views, shapes(2), func(shapes [][2]int) {
			for mask := 1; mask < 1<<k.views; mask++ {
				l := fill(t, from, shapes)
				for i := range l {
					if mask>>i&1 == 1 {
						l[i] = view.View{}
					}
				}
				was := matrices(l)
				expect(t, k.name, k.run(1, 1, l), api.ErrNil)
				k.stay(t, was, l)
			}
		})
	}
}

// Upper places of Symv, Syr2 and Syr2k, the other half of Trmm, and its diagonal with unit, are not read: NaNs there are not to be seen.
func TestNotRead(t *testing.T) {
	from := sources(6)[0]
	read := map[string]func(i, j int) bool{
		"Symv":            func(i, j int) bool { return j <= i },
		"Syr2":            func(i, j int) bool { return j <= i },
		"Syr2k":           func(i, j int) bool { return j <= i },
		"Trmm lower":      func(i, j int) bool { return j <= i },
		"Trmm upper":      func(i, j int) bool { return j >= i },
		"Trmm lower unit": func(i, j int) bool { return j < i },
		"Trmm upper unit": func(i, j int) bool { return j > i },
	}
	for _, k := range writers() {
		if read[k.name] == nil {
			continue
		}
		l := fill(t, from, [][2]int{{4, 4}, {4, 4}, {4, 4}}[:k.views])
		half := l[0]
		switch k.name {
		case "Symv":
			l[1], l[2] = l[1].Row(0), l[2].Col(0)
		case "Syr2":
			l[0], l[1], half = l[0].Row(0), l[1].Col(0), l[2]
		case "Syr2k":
			half = l[2]
		}
		for place := range half.All() {
			if !read[k.name](place[0], place[1]) {
				half.Set(place[0], place[1], nan)
			}
		}
		k.apart(t, 0.9, 1.1, l)
		for place, x := range l[k.written].All() {
			if sees := k.name[:2] == "Sy" && k.name != "Symv" && place[1] > place[0]; sees != (x != x) {
				t.Fatal(k.name, place, x)
			}
		}
	}
}
