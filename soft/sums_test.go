package soft_test

import (
	"math"
	"testing"

	"plumbline/soft"
)

// P4.1: a zero's sign, of each pair of signs.
func TestZeroSigns(t *testing.T) {
	for _, x := range []struct {
		a, b, sum, difference, product float64
	}{
		{0, 0, 0, 0, 0},
		{0, minus, 0, 0, minus},
		{minus, 0, 0, minus, minus},
		{minus, minus, minus, 0, 0},
	} {
		expect(t, "Add", soft.Add(x.a, x.b), x.sum, x.a, x.b)
		expect(t, "Sub", soft.Sub(x.a, x.b), x.difference, x.a, x.b)
		expect(t, "Mul", soft.Mul(x.a, x.b), x.product, x.a, x.b)
		for _, f := range []float64{least, greatSub, normal, 1, 3, most} {
			expect(t, "Mul", soft.Mul(math.Copysign(f, x.a), x.b), x.product, f, x.a, x.b)
			expect(t, "Mul", soft.Mul(x.a, math.Copysign(f, x.b)), x.product, f, x.a, x.b)
			expect(t, "Add", soft.Add(f, x.b), f, x.b)
			expect(t, "Add", soft.Add(x.a, -f), -f, x.a)
			expect(t, "Sub", soft.Sub(x.a, f), -f, x.a)
		}
	}
}

// P4.1: sums that cancel, whole: 0, not -0; and in part: exact.
func TestCancelled(t *testing.T) {
	for _, f := range []float64{least, 3 * least, greatSub, normal, 0.1, 1, 1<<53 - 1, 1e200, most} {
		expect(t, "Add", soft.Add(f, -f), 0, f)
		expect(t, "Add", soft.Add(-f, f), 0, f)
		expect(t, "Sub", soft.Sub(f, f), 0, f)
		expect(t, "Sub", soft.Sub(-f, -f), 0, f)
	}
	for _, x := range [][3]float64{
		{1 + 0x1p-52, -1, 0x1p-52}, {1, -(1 - 0x1p-53), 0x1p-53}, {2, -(2 - 0x1p-52), 0x1p-52}, {normal, -greatSub, least},
		{2 * normal, -(normal + least), greatSub},
		{3 * least, -2 * least, least}, {most, -(most - 0x1p971), 0x1p971}, {0.3, -0.1, 0.19999999999999998}, {1, -0x1p-53, 1 - 0x1p-53},
		{1 << 53, -1, 1<<53 - 1},
	} {
		expect(t, "Add", soft.Add(x[0], x[1]), x[2], x[0], x[1])
		expect(t, "Add", soft.Add(x[1], x[0]), x[2], x[1], x[0])
		expect(t, "Sub", soft.Sub(x[0], -x[1]), x[2], x[0], -x[1])
		expect(t, "Sub", soft.Sub(x[1], -x[0]), x[2], x[1], -x[0])
		expect(t, "Sub", soft.Sub(-x[0], x[1]), -x[2], -x[0], x[1])
	}
}

// P4.1: ties go to the even one; a bit far below makes them none.
func TestSumTies(t *testing.T) {
	for _, x := range [][3]float64{
		{1, 0x1p-53, 1}, {1, 0x1p-53 + 0x1p-105, 1 + 0x1p-52}, {1, 0x1p-53 - 0x1p-106, 1}, {1 + 0x1p-52, 0x1p-53, 1 + 0x1p-51},
		{1 + 0x1p-52, 0x1p-53 - 0x1p-106, 1 + 0x1p-52},
		{1, -0x1p-54, 1}, {1, -(0x1p-54 + 0x1p-106), 1 - 0x1p-53}, {1, -0x1p-54 + 0x1p-107, 1}, {2 - 0x1p-52, 0x1p-53, 2},
		{2 - 0x1p-52, 0x1p-54, 2 - 0x1p-52},
		{1 << 53, 1, 1 << 53}, {1<<53 + 2, 1, 1<<53 + 4}, {1 << 53, 1 + 0x1p-52, 1<<53 + 2}, {0.1, 0.2, 0.30000000000000004},
	} {
		expect(t, "Add", soft.Add(x[0], x[1]), x[2], x[0], x[1])
		expect(t, "Add", soft.Add(-x[1], -x[0]), -x[2], -x[1], -x[0])
		expect(t, "Sub", soft.Sub(x[0], -x[1]), x[2], x[0], -x[1])
	}
}

// P4.1: sums at the ends of the floats, and of floats as far apart as they may be.
func TestSumEnds(t *testing.T) {
	for _, x := range [][3]float64{
		{most, least, most}, {most, -least, most}, {1, least, 1}, {most, 0x1p970, inf}, {most, 0x1p970 - 0x1p917, most}, {most, 0x1p969, most},
		{most, 0x1p971, inf}, {most, most, inf},
		{0x1p1023, 0x1p1023, inf}, {0x1p1023, 0x1p1023 - 0x1p970, inf}, {0x1p1023, 0x1p1023 - 0x1p971, most}, {least, least, 2 * least},
		{greatSub, least, normal}, {greatSub, greatSub, 2*normal - 2*least},
		{normal, least, normal + least}, {0x1p-1023, 0x1p-1023, normal}, {normal, -least, greatSub},
	} {
		for _, s := range []float64{1, -1} {
			expect(t, "Add", soft.Add(s*x[0], s*x[1]), s*x[2], x[0], x[1])
			expect(t, "Add", soft.Add(s*x[1], s*x[0]), s*x[2], x[1], x[0])
			expect(t, "Sub", soft.Sub(s*x[0], -s*x[1]), s*x[2], x[0], -x[1])
		}
	}
}

// P4.1: products at ties and at the ends of the floats, with each pair of signs.
func TestProducts(t *testing.T) {
	for _, x := range [][3]float64{
		{3, 7, 21}, {0.1, 10, 1}, {0.1, 3, 0.30000000000000004}, {1 + 0x1p-52, 1 + 0x1p-52, 1 + 0x1p-51}, {1 + 0x1p-52, 1 - 0x1p-53, 1},
		{1 - 0x1p-53, 1 - 0x1p-53, 1 - 0x1p-52},
		{1 + 0x1p-52, 1.5, 1.5 + 0x1p-51}, {1 + 3*0x1p-52, 1.5, 1.5 + 0x1p-50}, {1<<53 - 1, 1<<53 - 1, 1<<106 - 1<<54},
		{0x1p-537, 0x1p-537, least}, {0x1p-537, 0x1p-538, 0}, {0x1p-537, 0x1p-538 + 0x1p-590, least}, {0x1p-537, 3 * 0x1p-538, 2 * least},
		{least, 0.5, 0}, {least, 0.5 + 0x1p-53, least}, {least, 1.5, 2 * least}, {3 * least, 0.5, 2 * least},
		{5 * least, 0.5, 2 * least}, {least, least, 0}, {normal, 0.5, 0x1p-1023}, {normal, 1 - 0x1p-53, normal}, {normal, 1 - 0x1p-52, greatSub},
		{greatSub, 2, 2*normal - 2*least}, {greatSub, 1 + 0x1p-52, normal},
		{0x1p512, 0x1p511, 0x1p1023}, {0x1p512, 0x1p512, inf}, {most, 1 + 0x1p-52, inf}, {most, 1 - 0x1p-53, most - 0x1p971}, {most, 2, inf},
		{0x1p512 - 0x1p459, 0x1p512, most}, {0x1p1023, 2 - 0x1p-52, most}, {most, most, inf}, {most, least, 0x1p-50 * (1 - 0x1p-53)},
		{1e200, 1e200, inf},
	} {
		for _, s := range [][2]float64{{1, 1}, {1, -1}, {-1, 1}, {-1, -1}} {
			a, b, want := s[0]*x[0], s[1]*x[1], x[2]*s[0]*s[1]
			expect(t, "Mul", soft.Mul(a, b), want, a, b)
			expect(t, "Mul", soft.Mul(b, a), want, b, a)
		}
	}
}

// P4.1: Sub is Add of y with its sign bit turned.
func TestSubIsAdd(t *testing.T) {
	for _, x := range edges() {
		for _, y := range edges() {
			turned := math.Float64frombits(math.Float64bits(y) ^ 1<<63)
			expect(t, "Sub", soft.Sub(x, y), soft.Add(x, turned), x, y)
		}
	}
}
