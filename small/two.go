package small

import "math"

// Eigen answers the eigenvalues of a, b; b, c: x, the one of the greater size, and y, the other one; and x's vector, cs and sn.
func Eigen(a, b, c float64) (x, y, cs, sn float64) {
	df, tb := a-c, b+b
	rt := between(math.Abs(df), math.Abs(tb))
	x, y, one := values(a, b, c, rt)
	two := 1
	if df >= 0 {
		cs = df + rt
	} else {
		cs, two = df-rt, -1
	}
	cs, sn = vector(cs, tb)
	if one == two {
		cs, sn = -sn, cs
	}
	return x, y, cs, sn
}

// between answers how far both eigenvalues are from each other.
func between(ad, ab float64) float64 {
	switch {
	case ad > ab:
		return length(ad, ab)
	case ad < ab:
		return length(ab, ad)
	}
	return float64(ab * math.Sqrt(2))
}

// values answers both eigenvalues, and the side of 0 on which x is said to lie.
func values(a, b, c, rt float64) (x, y float64, one int) {
	hi, lo := c, a
	if math.Abs(a) > math.Abs(c) {
		hi, lo = lo, hi
	}
	switch sm := a + c; {
	case sm < 0:
		x, one = float64(0.5*(sm-rt)), -1
	case sm > 0:
		x, one = float64(0.5*(sm+rt)), 1
	default:
		return float64(0.5 * rt), float64(-0.5 * rt), 1
	}
	y = float64(hi/x*lo) - float64(b/x*b)
	return x, y, one
}

// vector answers one of length 1 at a right angle to cs and tb.
func vector(cs, tb float64) (float64, float64) {
	switch ab := math.Abs(tb); {
	case math.Abs(cs) > ab:
		t := -tb / cs
		sn := 1 / slant(t)
		return float64(t * sn), sn
	case ab == 0:
		return 1, 0
	}
	t := -cs / tb
	cs = 1 / slant(t)
	return cs, float64(t * cs)
}

// Singular answers the singular values of f, g; 0, h.
func Singular(f, g, h float64) (least, most float64) {
	ga := math.Abs(g)
	hi, lo := ordered(math.Abs(h), math.Abs(f))
	switch {
	case lo == 0 && hi == 0:
		return 0, ga
	case lo == 0:
		return 0, length(ordered(hi, ga))
	case ga < hi:
		return steep(lo, hi, ga)
	case hi/ga == 0:
		return (lo * hi) / ga, ga
	}
	return flat(lo, hi, ga)
}

// steep is Singular where what lies beside the diagonal is less than the greater one on it.
func steep(lo, hi, ga float64) (least, most float64) {
	s, t, v := 1+lo/hi, (hi-lo)/hi, ga/hi
	v = float64(v * v)
	c := 2 / (math.Sqrt(float64(s*s)+v) + math.Sqrt(float64(t*t)+v))
	return float64(lo * c), hi / c
}

// flat is Singular where what lies beside the diagonal is not less.
func flat(lo, hi, ga float64) (least, most float64) {
	s, t, v := 1+lo/hi, (hi-lo)/hi, hi/ga
	c := 1 / (slant(s*v) + slant(t*v))
	w := float64(lo * c * v)
	return w + w, ga / (c + c)
}
