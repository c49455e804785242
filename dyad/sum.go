package dyad

import (
	"cmp"

	"plumbline/api"
	"plumbline/nat"
)

// Cmp tells how a stands to b.
func Cmp(a, b api.Dyad) (int, api.Errno) {
	return bothHanded(a, b, order)
}

// Add answers a and b together.
func Add(a, b api.Dyad) (api.Dyad, api.Errno) {
	return bothHanded(a, b, sum)
}

// Sub answers a less b.
func Sub(a, b api.Dyad) (api.Dyad, api.Errno) {
	return bothHanded(a, b, func(a, b api.Dyad) (api.Dyad, api.Errno) {
		return sum(a, turned(b))
	})
}

// Mul answers a times b.
func Mul(a, b api.Dyad) (api.Dyad, api.Errno) {
	return bothHanded(a, b, product)
}

// Sum answers all of the list together.
func Sum(l ...api.Dyad) (api.Dyad, api.Errno) {
	return summed(len(l), func(i int) (api.Dyad, api.Errno) {
		return taken(l[i])
	})
}

// Dot answers the products of the lists' numbers together.
func Dot(a, b []api.Dyad) (api.Dyad, api.Errno) {
	if len(a) != len(b) {
		return api.Dyad{}, api.ErrArg
	}
	return summed(len(a), func(i int) (api.Dyad, api.Errno) {
		return Mul(a[i], b[i])
	})
}

// bothHanded hands both on to use, normal, and answers what that answers.
func bothHanded[T any](a, b api.Dyad, use func(a, b api.Dyad) (T, api.Errno)) (answer T, e api.Errno) {
	a, e = taken(a)
	b, f := taken(b)
	if e != api.OK || f != api.OK {
		return answer, api.ErrArg
	}
	return use(a, b)
}

// summed adds the numbers 0 to n-1, one behind the other, up to the first error that a number, or a sum, has.
func summed(n int, number func(i int) (api.Dyad, api.Errno)) (total api.Dyad, e api.Errno) {
adding:
	for i := range n {
		switch d, refused := number(i); refused {
		case api.OK:
			if total, e = sum(total, d); e != api.OK {
				break adding
			}
		default:
			total, e = api.Dyad{}, refused
			break adding
		}
	}
	return total, e
}

// The functions from here on are handed normal numbers, whose E may be beyond MaxExp.

func sum(a, b api.Dyad) (api.Dyad, api.Errno) {
	switch {
	case len(a.M) == 0:
		return copied(b.Neg, b.M, b.E)
	case len(b.M) == 0:
		return copied(a.Neg, a.M, a.E)
	case tooFar(a, b):
		return api.Dyad{}, api.ErrLong
	}
	d, e := pairOf(a, b).total()
	if e != api.OK {
		return api.Dyad{}, e
	}
	return answered(d.Neg, d.M, d.E)
}

func product(a, b api.Dyad) (api.Dyad, api.Errno) {
	size, e := nat.Mul(a.M, b.M)
	if e != api.OK {
		return api.Dyad{}, e
	}
	return answered(a.Neg != b.Neg, size, a.E+b.E)
}

// order tells how a stands to b: by their signs, else by their highest bits, else by what is left of the one without the other.
func order(a, b api.Dyad) (int, api.Errno) {
	sign, other := signOf(a.Neg, a.M), signOf(b.Neg, b.M)
	switch {
	case sign*other != 0 && tooFar(a, b):
		return 0, api.ErrLong
	case sign != other || sign == 0:
		return cmp.Compare(sign, other), api.OK
	case height(a) != height(b):
		return sign * cmp.Compare(height(a), height(b)), api.OK
	}
	// Where both are as high as each other, neither has more bits than MaxLimbs give it room for, brought to the place of the lower one: there is no error.
	d, e := pairOf(a, turned(b)).total()
	return signOf(d.Neg, d.M), e
}

func tooFar(a, b api.Dyad) bool {
	return max(a.E, b.E)-min(a.E, b.E) > mostBits
}

func turned(d api.Dyad) api.Dyad {
	d.Neg = !d.Neg
	return d
}
