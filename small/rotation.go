package small

import "math"

// Givens answers a rotation, c and s, that turns f and g to r and 0.
func Givens(f, g float64) (c, s, r float64) {
	switch {
	case g == 0:
		return 1, 0, f
	case f == 0:
		return 0, 1, g
	case math.Abs(f) > math.Abs(g):
		c, s, r = toward(f, g)
	default:
		s, c, r = toward(g, f)
	}
	return c, s, r
}

// toward answers what turns f and g to r at f's place: f's part of it, and g's; f is the greater one.
func toward(f, g float64) (own, other, r float64) {
	t := g / f
	v := slant(t)
	own = 1 / v
	return own, float64(own * t), float64(f * v)
}

// Turn answers x and y, turned by the rotation c and s.
func Turn(c, s, x, y float64) (float64, float64) {
	return float64(c*x) + float64(s*y), float64(c*y) - float64(s*x)
}
