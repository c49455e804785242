package soft_test

import (
	"testing"

	"plumbline/soft"
)

// P4.1: a product that is 0 keeps its sign, and is added to z as Add does.
func TestFmaOfZero(t *testing.T) {
	for _, a := range []float64{0, minus} {
		for _, f := range []float64{0, minus, least, -least, 1, -1, most, -most} {
			for _, z := range []float64{0, minus, least, -least, 0.1, -3, most, -most, inf, -inf, nan} {
				want := a*f + z // a zero is exact
				expect(t, "Fma", soft.Fma(a, f, z), want, a, f, z)
				expect(t, "Fma", soft.Fma(f, a, z), want, f, a, z)
				expect(t, "Fma", soft.Fma(a, f, z), soft.Add(soft.Mul(a, f), z), a, f, z)
			}
		}
	}
	expect(t, "Fma", soft.Fma(0, 1, minus), 0)
	expect(t, "Fma", soft.Fma(minus, 1, 0), 0)
	expect(t, "Fma", soft.Fma(minus, 1, minus), minus)
	expect(t, "Fma", soft.Fma(minus, -1, minus), 0)
}

// P4.1: what cancels wholly is 0, not -0.
func TestFmaCancelled(t *testing.T) {
	for _, x := range [][2]float64{{1, 1}, {3, 7}, {0.5, least * 2}, {0x1p512, 0x1p511}, {1<<26 + 1, 1<<26 - 1}, {0x1p-537, 0x1p-537}, {most, 1}, {0x1p-1000, 0x1p1000}} {
		z := x[0] * x[1]
		expect(t, "Fma", soft.Fma(x[0], x[1], -z), 0, x[0], x[1])
		expect(t, "Fma", soft.Fma(-x[0], x[1], z), 0, x[0], x[1])
		expect(t, "Fma", soft.Fma(x[0], -x[1], z), 0, x[0], x[1])
		expect(t, "Fma", soft.Fma(-x[0], -x[1], -z), 0, x[0], x[1])
	}
}

// P4.1: rounded once: what of the product lies below its last bit counts.
func TestFmaOnce(t *testing.T) {
	const up, down = 1 + 0x1p-52, 1 - 0x1p-52
	for _, x := range [][4]float64{
		// cancels in part
		{up, down, -1, -0x1p-104}, {up, up, -(1 + 0x1p-51), 0x1p-104}, {0.1, 10, -1, 0x1p-54}, {1<<27 + 1, 1<<27 + 1, -1 << 54, 1<<28 + 1},
		{1 - 0x1p-53, 1 - 0x1p-53, -1, -0x1p-52 + 0x1p-106}, {3, 0.1, -0.3, 0x1p-55},
		// ties, and beside them
		{1, 0x1p-53, 1, 1}, {1, 0x1p-53, 1 + 0x1p-52, 1 + 0x1p-51}, {up, 0x1p-53, 1, up}, {1 - 0x1p-53, 0x1p-53, 1, 1},
		{1 - 0x1p-53, 0x1p-53, up, up}, {up, 0x1p-54, -1, -(1 - 0x1p-53)}, {up, -0x1p-54, 1, 1 - 0x1p-53},
		{1 + 0x1p-27, 1 + 0x1p-26, least, 1 + 0x1p-26 + 0x1p-27 + 0x1p-52}, {1 + 0x1p-27, 1 + 0x1p-26, -least, 1 + 0x1p-26 + 0x1p-27},
		{1 + 0x1p-27, 1 + 0x1p-26, 0, 1 + 0x1p-26 + 0x1p-27},
		// product and z far apart
		{most, most, -most, inf}, {most, -most, most, -inf}, {least, least, 1, 1}, {least, least, 1 - 0x1p-53, 1 - 0x1p-53},
		{least, least, most, most}, {least, -least, most, most}, {0x1p512, 0x1p511, least, 0x1p1023}, {0x1p512, 0x1p511, -least, 0x1p1023},
		{3, 5, -least, 15}, {1e-300, 1e-300, -1e300, -1e300},
		// a product beyond the floats comes back
		{0x1p512, 0x1p512, -0x1p1023, 0x1p1023}, {most, 2, -most, most}, {most, 2, -0x1p1023, inf}, {0x1p1000, 0x1p25, -most, inf},
		{0x1p512, 0x1p512, -0x1p970, inf}, {0x1p512, 0x1p512, -(0x1p970 + 0x1p918), most}, {0x1p512, 0x1p512, -0x1p971, most},
		{-0x1p512, 0x1p512, 0x1p971, -most}, {most, up, -0x1p971, inf}, {most, up, -0x1p972, most},
		// and one below them counts
		{least, 0.5, 0, 0}, {least, -0.5, 0, minus}, {least, -0.5, minus, minus}, {least, least, 0, 0}, {least, -least, 0, minus},
		{-least, least, minus, minus}, {least, least, minus, 0}, {least, 0.5, least, 2 * least}, {least, -0.5, least, 0},
		{least, 0.5 - 0x1p-54, least, least}, {least, 0.5 + 0x1p-53, least, 2 * least},
		{least, 0.5, 2 * least, 2 * least}, {least, -0.5, -least, -2 * least}, {least, -0.25, least, least}, {-least, least, least, least},
		{0x1p-537, 0x1p-538, normal, normal}, {0x1p-537, 0x1p-538, normal + least, normal + 2*least}, {least, -0.5, normal, normal},
		{least, -0.75, normal, greatSub}, {least, 0.5, greatSub, normal}, {least, 0.25, greatSub, greatSub},
		{0x1p-600, -0x1p-600, 0, minus}, {0x1p-600, 0x1p-600, minus, 0}, {0x1p-600, -0x1p-600, least, least},
	} {
		expect(t, "Fma", soft.Fma(x[0], x[1], x[2]), x[3], x[:3]...)
		expect(t, "Fma", soft.Fma(x[1], x[0], x[2]), x[3], x[1], x[0], x[2])
		if x[3] != 0 {
			expect(t, "Fma", soft.Fma(-x[0], x[1], -x[2]), -x[3], x[:3]...)
		}
	}
}

// P4.1: of others first the product, then the sum: a product of two finite ones is finite, however great.
func TestFmaNotFinite(t *testing.T) {
	for _, x := range [][4]float64{
		{most, most, -inf, -inf}, {most, -most, inf, inf}, {most, most, inf, inf}, {1, 1, inf, inf}, {0, 1, -inf, -inf},
		{least, least, -inf, -inf}, {most, most, nan, nan}, {1, 1, nan, nan}, {0, 0, nan, nan},
		{inf, 0, 1, nan}, {0, -inf, 1, nan}, {inf, minus, inf, nan}, {inf, 0, nan, nan}, {0, inf, -inf, nan}, {inf, 1, 1, inf},
		{inf, -1, most, -inf}, {-inf, -least, -most, inf}, {inf, 2, 0, inf}, {inf, 2, minus, inf},
		{inf, 1, inf, inf}, {inf, 1, -inf, nan}, {-inf, 1, inf, nan}, {-inf, 1, -inf, -inf}, {inf, inf, -inf, nan}, {inf, -inf, -inf, -inf},
		{inf, -inf, inf, nan}, {inf, 1, nan, nan}, {nan, 1, 1, nan}, {1, nan, inf, nan}, {nan, 0, 0, nan}, {nan, inf, inf, nan},
		{nan, nan, nan, nan},
	} {
		expect(t, "Fma", soft.Fma(x[0], x[1], x[2]), x[3], x[:3]...)
		expect(t, "Fma", soft.Fma(x[1], x[0], x[2]), x[3], x[1], x[0], x[2])
	}
}
