package small_test

import (
	"math"
	"math/big"
	"testing"

	"plumbline/soft"
)

const (
	least    = math.SmallestNonzeroFloat64
	most     = math.MaxFloat64
	normal   = 0x1p-1022 // the least normal one
	greatSub = normal - least
	step     = 0x1p-52 // from 1 to the next one
)

var (
	inf   = math.Inf(1)
	nan   = math.NaN()
	minus = math.Copysign(0, -1) // -0
)

// alike tells if both are the same float, bit by bit, NaNs being one.
func alike(x, y float64) bool {
	return math.Float64bits(x) == math.Float64bits(y) || x != x && y != y
}

func expect(t *testing.T, call string, handed, got, want []float64) {
	t.Helper()
	for i := range want {
		if !alike(got[i], want[i]) {
			t.Fatalf("%s%x: %x, not %x", call, handed[:min(len(handed), 9)], got, want)
		}
	}
}

// few puts the answers of one call together.
func few(l ...float64) []float64 { return l }

// stream answers words by a rule that is not to be seen in them.
func stream(seed uint64) func() uint64 {
	return func() uint64 {
		seed = seed*6364136223846793005 + 1442695040888963407
		return (seed ^ seed>>29) * 0x9E3779B97F4A7C15
	}
}

func withSigns(l ...float64) []float64 {
	for _, f := range l {
		l = append(l, math.Copysign(f, -1))
	}
	return l
}

// edges are floats at which something changes: the least and the greatest ones of each class, powers whose quotients' squares vanish beside 1 or are 0, and others, with both signs.
func edges() []float64 {
	return withSigns(0, least, 3*least, greatSub, normal, normal+least, 0x1p-538, 0x1p-511, 0x1p-400, 0x1p-27, 0x1p-26,
		0.1, 1-step/2, 1, 1+step, 1+3*step, math.Sqrt2, 3, 0x1p26, 0x1p27, 0x1p53, 0x1p400, 0x1p511, 0x1p512, 0x1p538, 0x1p1023, most, inf, nan)
}

// fewEdges are the most telling of them.
func fewEdges() []float64 {
	return withSigns(0, least, greatSub, normal, 0x1p-511, 1-step/2, 1, 1+step, 3, 0x1p27, 0x1p511, 0x1p1023, most, inf, nan)
}

// near answers floats with exponents from low to high, either sign, some of them with few bits, and some of them zeros.
func near(low, high int, seed uint64) func() float64 {
	next := stream(seed)
	return func() float64 {
		w := next()
		man := 1 + float64(next()>>12)*step
		if w&3 == 0 {
			man = 1 + float64(w>>61)/8
		}
		if w&0xF0 == 0 {
			man = 0
		}
		exp := low + int(next()%uint64(high-low+1))
		return math.Copysign(math.Ldexp(man, exp), float64(int64(w)))
	}
}

// anyFloat answers floats of any bits, a part of them below the normal ones.
func anyFloat(seed uint64) func() float64 {
	next := stream(seed)
	return func() float64 {
		w := next()
		if w&7 == 0 {
			w &^= 0x7FF << 52
		}
		return math.Float64frombits(w)
	}
}

// ranged answers floats that are 0 or from 2^-400 to 2^400 by their sizes, these two among them.
func ranged(seed uint64) func() float64 {
	next, inner := stream(seed), near(-400, 399, seed)
	return func() float64 {
		switch w := next() >> 5; w % 16 {
		case 0:
			return math.Copysign(0x1p400, float64(int64(w<<5)))
		case 1:
			return math.Copysign(0x1p-400, float64(int64(w<<5)))
		}
		return inner()
	}
}

// streams are of any floats, of ones near each other, of ones farther apart, and of all exponents.
func streams(seed uint64) []func() float64 {
	return []func() float64{anyFloat(seed), near(-1, 1, seed), near(-3, 3, seed), near(-30, 30, seed), near(-600, 600, seed), near(-1022, 1022, seed), ranged(seed)}
}

// eachTwo goes over two of the edges each, in both orders, and n of each stream.
func eachTwo(n int, seed uint64, do func(x, y float64)) {
	for _, x := range edges() {
		for _, y := range edges() {
			do(x, y)
		}
	}
	for _, next := range streams(seed) {
		for range n {
			x, y := next(), next()
			do(x, y)
			do(x, -x)
			do(x, math.Nextafter(x, y))
		}
	}
}

// eachThree goes over three of the few edges each, in each order, and n of each stream.
func eachThree(n int, seed uint64, do func(x, y, z float64)) {
	for _, x := range fewEdges() {
		for _, y := range fewEdges() {
			for _, z := range fewEdges() {
				do(x, y, z)
			}
		}
	}
	for _, next := range streams(seed) {
		for range n {
			x, y, z := next(), next(), next()
			do(x, y, z)
			do(x, y, x)
			do(x, y, -x)
			do(x, (x-z)/2, z)
			do(x, x, z)
			do(z, x, x)
			do(x, y, math.Nextafter(x, z))
		}
	}
}

// The chapter's formulas, by the exact operations of floats: none of them is rounded but once.

var (
	plus  = soft.Add
	less  = soft.Sub
	times = soft.Mul
	over  = soft.Div
	root  = soft.Sqrt
)

func square(x float64) float64 { return times(x, x) }

func hypotOf(x, y float64) float64 {
	p, q := math.Abs(x), math.Abs(y)
	if q > p {
		p, q = q, p
	}
	if p == 0 {
		return p
	}
	r := over(q, p)
	return times(p, root(plus(1, square(r))))
}

func normOf(l []float64) float64 {
	var scale, sum float64 = 0, 1
	for _, x := range l {
		if x == 0 {
			continue
		}
		a := math.Abs(x)
		if scale < a {
			r := over(scale, a)
			sum = plus(1, times(times(sum, r), r))
			scale = a
		} else {
			r := over(a, scale)
			sum = plus(sum, times(r, r))
		}
	}
	return times(scale, root(sum))
}

func givensOf(f, g float64) []float64 {
	if g == 0 {
		return few(1, 0, f)
	}
	if f == 0 {
		return few(0, 1, g)
	}
	if math.Abs(f) > math.Abs(g) {
		t := over(g, f)
		v := root(plus(1, square(t)))
		c := over(1, v)
		return few(c, times(c, t), times(f, v))
	}
	t := over(f, g)
	v := root(plus(1, square(t)))
	s := over(1, v)
	return few(times(s, t), s, times(g, v))
}

func turnOf(c, s, x, y float64) []float64 {
	return few(plus(times(c, x), times(s, y)), less(times(c, y), times(s, x)))
}

func eigenOf(a, b, c float64) []float64 {
	sm, df, tb := plus(a, c), less(a, c), plus(b, b)
	ad, ab := math.Abs(df), math.Abs(tb)
	hi, lo := c, a
	if math.Abs(a) > math.Abs(c) {
		hi, lo = a, c
	}
	var rt float64
	if ad > ab {
		rt = times(ad, root(plus(1, square(over(ab, ad)))))
	} else if ad < ab {
		rt = times(ab, root(plus(1, square(over(ad, ab)))))
	} else {
		rt = times(ab, root(2))
	}
	var x, y float64
	one, two := 1, 1
	if sm < 0 {
		one = -1
		x = times(0.5, less(sm, rt))
		y = less(times(over(hi, x), lo), times(over(b, x), b))
	} else if sm > 0 {
		x = times(0.5, plus(sm, rt))
		y = less(times(over(hi, x), lo), times(over(b, x), b))
	} else {
		x, y = times(0.5, rt), times(-0.5, rt)
	}
	var cs, sn float64
	if df >= 0 {
		cs = plus(df, rt)
	} else {
		cs, two = less(df, rt), -1
	}
	if math.Abs(cs) > ab {
		t := over(-tb, cs)
		sn = over(1, root(plus(1, square(t))))
		cs = times(t, sn)
	} else if ab == 0 {
		cs, sn = 1, 0
	} else {
		t := over(-cs, tb)
		cs = over(1, root(plus(1, square(t))))
		sn = times(t, cs)
	}
	if one == two {
		t := cs
		cs = -sn
		sn = t
	}
	return few(x, y, cs, sn)
}

func singularOf(f, g, h float64) []float64 {
	fa, ga, ha := math.Abs(f), math.Abs(g), math.Abs(h)
	lo, hi := fa, ha
	if ha < fa {
		lo, hi = ha, fa
	}
	if lo == 0 {
		if hi == 0 {
			return few(0, ga)
		}
		p, q := hi, ga
		if ga > hi {
			p, q = ga, hi
		}
		return few(0, times(p, root(plus(1, square(over(q, p))))))
	}
	s, t := plus(1, over(lo, hi)), over(less(hi, lo), hi)
	if ga < hi {
		v := square(over(ga, hi))
		c := over(2, plus(root(plus(square(s), v)), root(plus(square(t), v))))
		return few(times(lo, c), over(hi, c))
	}
	v := over(hi, ga)
	if v == 0 {
		return few(over(times(lo, hi), ga), ga)
	}
	c := over(1, plus(root(plus(1, square(times(s, v)))), root(plus(1, square(times(t, v))))))
	w := times(times(lo, c), v)
	return few(plus(w, w), over(ga, plus(c, c)))
}

// exactly is the float's number, in as many bits as sums of squares of such floats need.
func exactly(x float64) *big.Float {
	return new(big.Float).SetPrec(4500).SetFloat64(x)
}

// squares is the exact sum of the squares of finite floats.
func squares(l ...float64) *big.Float {
	sum := exactly(0)
	for _, x := range l {
		sum.Add(sum, exactly(0).Mul(exactly(x), exactly(x)))
	}
	return sum
}
