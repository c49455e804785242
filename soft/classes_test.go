package soft_test

import (
	"math"
	"testing"

	"plumbline/soft"
)

// The results of two that are not below 0, as the chapter says them: 0, a zero; 1, hangs on the numbers; 8, an infinity; 9, a NaN.
var (
	sumTable      = [4][4]int{{0, 1, 8, 9}, {1, 1, 8, 9}, {8, 8, 8, 9}, {9, 9, 9, 9}}
	productTable  = [4][4]int{{0, 0, 9, 9}, {0, 1, 8, 9}, {9, 8, 8, 9}, {9, 9, 9, 9}}
	quotientTable = [4][4]int{{9, 0, 0, 9}, {8, 1, 0, 9}, {8, 8, 9, 9}, {9, 9, 9, 9}}
)

// classes are some floats of each: zero, finite, infinity, NaN.
func classes() [4][]float64 {
	return [4][]float64{
		{0},
		{least, greatSub, normal, 0.75, 1, 3, 1e200, most},
		{inf},
		{nan, math.Float64frombits(0x7FF8000000000000), math.Float64frombits(0x7FF0000000000001), math.Float64frombits(0x7FFFFFFFFFFFFFFF)},
	}
}

// eachPair hands on a float of each pair of classes, with each pair of signs, and the classes.
func eachPair(use func(a, b float64, i, k int)) {
	l := classes()
	for i := range l {
		for k := range l {
			for _, a := range l[i] {
				for _, b := range l[k] {
					use(a, b, i, k)
					use(-a, b, i, k)
					use(a, -b, i, k)
					use(-a, -b, i, k)
				}
			}
		}
	}
}

// of makes the result that the table tells, with that sign; false: it hangs on the numbers.
func of(told int, neg bool) (float64, bool) {
	f := map[int]float64{0: 0, 1: 1, 8: inf, 9: nan}[told]
	if neg {
		f = -f
	}
	return f, told != 1
}

// P4.1, P0.9
func TestSumClasses(t *testing.T) {
	eachPair(func(a, b float64, i, k int) {
		told, neg := sumTable[i][k], false
		switch {
		case i == 2 && k == 2 && (a < 0) != (b < 0):
			told = 9
		case i == 2:
			neg = a < 0
		case k == 2:
			neg = b < 0
		default:
			neg = math.Signbit(a) && math.Signbit(b)
		}
		if want, fixed := of(told, neg); fixed {
			expect(t, "Add", soft.Add(a, b), want, a, b)
			expect(t, "Sub", soft.Sub(a, -b), want, a, -b)
		} else {
			expect(t, "Add", soft.Add(a, b), a+b, a, b)
			expect(t, "Sub", soft.Sub(a, -b), a+b, a, -b)
		}
	})
}

// P4.1, P4.2, P0.9
func TestProductAndQuotientClasses(t *testing.T) {
	eachPair(func(a, b float64, i, k int) {
		neg := math.Signbit(a) != math.Signbit(b)
		product, fixed := of(productTable[i][k], neg)
		if !fixed {
			product = a * b
		}
		expect(t, "Mul", soft.Mul(a, b), product, a, b)
		quotient, fixed := of(quotientTable[i][k], neg)
		if !fixed {
			quotient = a / b
		}
		expect(t, "Div", soft.Div(a, b), quotient, a, b)
	})
}

// P4.1, P0.9: what Fma answers of each pair is Add of the product, where that is no finite number but 0; else z, where that is not finite.
func TestFmaClasses(t *testing.T) {
	eachPair(func(a, b float64, i, k int) {
		for _, z := range []float64{0, minus, 1, -most, least, inf, -inf, nan} {
			product, fixed := of(productTable[i][k], math.Signbit(a) != math.Signbit(b))
			switch {
			case fixed:
				expect(t, "Fma", soft.Fma(a, b, z), product+z, a, b, z)
			case z-z != 0:
				expect(t, "Fma", soft.Fma(a, b, z), z, a, b, z)
			default:
				expect(t, "Fma", soft.Fma(a, b, z), math.FMA(a, b, z), a, b, z)
			}
		}
	})
}

// P4.2, P0.9
func TestSqrtClasses(t *testing.T) {
	for _, x := range [][2]float64{{0, 0}, {minus, minus}, {inf, inf}, {-inf, nan}, {nan, nan}, {-nan, nan}, {-1, nan}, {-4, nan}, {-least, nan}, {-greatSub, nan}, {-normal, nan}, {-most, nan}, {math.Float64frombits(0xFFF0000000000001), nan}} {
		expect(t, "Sqrt", soft.Sqrt(x[0]), x[1], x[0])
	}
}
