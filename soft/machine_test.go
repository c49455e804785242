package soft_test

import (
	"math"
	"testing"

	"plumbline/soft"
)

// P4.4, P0.5: what the machine does, bit by bit.

func expectMachine(t *testing.T, x, y float64) {
	t.Helper()
	expect(t, "Add", soft.Add(x, y), x+y, x, y)
	expect(t, "Sub", soft.Sub(x, y), x-y, x, y)
	expect(t, "Mul", soft.Mul(x, y), x*y, x, y)
	expect(t, "Div", soft.Div(x, y), x/y, x, y)
}

func expectFma(t *testing.T, x, y, z float64) {
	t.Helper()
	expect(t, "Fma", soft.Fma(x, y, z), math.FMA(x, y, z), x, y, z)
}

func TestMachineEdges(t *testing.T) {
	l := edges()
	for _, x := range l {
		for _, y := range l {
			expectMachine(t, x, y)
		}
		expect(t, "Sqrt", soft.Sqrt(x), math.Sqrt(x), x)
	}
}

func TestMachineAny(t *testing.T) {
	l := anyFloats(20000, 3)
	for i, x := range l {
		expectMachine(t, x, l[(i*7+1)%len(l)])
		expect(t, "Sqrt", soft.Sqrt(x), math.Sqrt(x), x)
		expect(t, "Sqrt", soft.Sqrt(math.Abs(x)), math.Sqrt(math.Abs(x)), x)
	}
}

// Of any two floats the exponents are far apart mostly: here they are such that bits of both meet, or that the result comes to an end of the floats.
func TestMachineNear(t *testing.T) {
	next := stream(4)
	for _, ends := range [][4]int{
		{-2, 2, -2, 2}, {-60, 60, -60, 60}, {-1074, -1000, -1074, -1000}, {960, 1023, 960, 1023}, {-560, -500, -560, -500}, {490, 520, 490, 520},
		{-1074, -960, 0, 60}, {-1030, -1000, -60, 10}, {-1074, -1000, 960, 1023}, {-60, 0, 980, 1023}, {-540, -480, 480, 540},
	} {
		first, second := near(ends[0], ends[1], next), near(ends[2], ends[3], next)
		for range 2500 {
			x, y := first(), second()
			expectMachine(t, x, y)
			expectMachine(t, y, x)
			root := math.Abs(x)
			expect(t, "Sqrt", soft.Sqrt(root), math.Sqrt(root), root)
		}
	}
}

func TestMachineFmaEdges(t *testing.T) {
	l := edges()
	for i, x := range l {
		for k, y := range l {
			for n := (i + k) % 5; n < len(l); n += 5 {
				expectFma(t, x, y, l[n])
			}
		}
	}
}

func TestMachineFmaAny(t *testing.T) {
	l := anyFloats(20000, 5)
	for i, x := range l {
		y, z := l[(i*7+1)%len(l)], l[(i*13+5)%len(l)]
		expectFma(t, x, y, z)
		expectFma(t, x, y, -x*y)
	}
}

// A product, and a z that is as great, or by some bits greater or less; where it is of about the same size it cancels in part, or whole.
func TestMachineFmaNear(t *testing.T) {
	next := stream(6)
	for _, ends := range [][4]int{{-2, 2, -2, 2}, {-560, -500, -560, -500}, {490, 514, 490, 514}, {-1074, -960, -40, 60}, {-60, 60, 960, 1023}, {-600, -400, 400, 600}} {
		first, second := near(ends[0], ends[1], next), near(ends[2], ends[3], next)
		for range 1500 {
			x, y := first(), second()
			z := x * y
			if z-z != 0 {
				z = math.Copysign(most, z)
			}
			for _, z := range []float64{z, -z, math.Nextafter(-z, 0), math.Nextafter(-z, -inf), math.Ldexp(-z, int(next()%120)-60), math.Ldexp(z, int(next()%120)-60), least, -least, minus} {
				expectFma(t, x, y, z)
			}
		}
	}
}
