package soft_test

import (
	"math"
	"testing"

	"plumbline/soft"
)

// P4.2: quotients that have no end, such as end, and such as end just at a tie; at the ends of the floats; with each pair of signs.
func TestDiv(t *testing.T) {
	for _, x := range [][3]float64{
		{1, 3, 0.3333333333333333}, {2, 3, 0.6666666666666666}, {10, 3, 3.3333333333333335}, {1, 10, 0.1}, {22, 7, 3.142857142857143},
		{1, 49, 0.02040816326530612}, {1, 1 - 0x1p-53, 1 + 0x1p-52}, {1, 1 + 0x1p-52, 1 - 0x1p-52}, {1 - 0x1p-53, 1 + 0x1p-52, 1 - 3*0x1p-53},
		{1 + 0x1p-52, 1 - 0x1p-53, 1 + 0x1p-51},
		{6, 3, 2}, {21, 7, 3}, {1, 8, 0.125}, {7, 0.5, 14}, {0.1, 0.1, 1}, {1<<53 - 1, 1, 1<<53 - 1}, {most, most, 1}, {least, least, 1},
		{greatSub, least, 1<<52 - 1},
		{least, 2, 0}, {3 * least, 2, 2 * least}, {5 * least, 2, 2 * least}, {7 * least, 2, 4 * least}, {least, 3, 0}, {2 * least, 3, least},
		{least, 2 - 0x1p-52, least}, {3 * least, 2 + 0x1p-51, least}, {least, 0.5, 2 * least},
		{normal, 2, 0x1p-1023}, {2*normal - 2*least, 2, greatSub}, {2*normal - least, 2, normal}, {2*normal - 3*least, 2, greatSub - least},
		{normal, 1 + 0x1p-52, greatSub}, {greatSub, 1 - 0x1p-53, greatSub}, {greatSub, 1 - 0x1p-52, normal},
		{normal, 1 - 0x1p-53, normal + least},
		{least, most, 0}, {most, least, inf}, {1, least, inf}, {1, normal, 0x1p1022}, {1, 0x1p-1024, inf},
		{1, 0x1p-1024 + least, 0x1p1024 - 0x1p974}, {most, 0.5, inf}, {most, 1 - 0x1p-53, inf}, {most - 0x1p971, 1 - 0x1p-53, most},
		{most, 2, most / 2}, {1, most, 0x1p-1024}, {0x1p-1022, most, 0},
	} {
		for _, s := range [][2]float64{{1, 1}, {1, -1}, {-1, 1}, {-1, -1}} {
			a, b := s[0]*x[0], s[1]*x[1]
			expect(t, "Div", soft.Div(a, b), x[2]*s[0]*s[1], a, b)
		}
	}
}

// P4.2: roots of squares, and of what lies just beside a square.
func TestSqrt(t *testing.T) {
	for _, x := range [][2]float64{
		{1, 1}, {4, 2}, {2, 1.4142135623730951}, {3, 1.7320508075688772}, {0.25, 0.5}, {0.5, 0.7071067811865476}, {1e200, 1e100},
		{0.1, 0.31622776601683794}, {1 << 54, 1 << 27}, {1 << 53, 94906265.62425156},
		{1 + 0x1p-52, 1}, {1 + 0x1p-51, 1 + 0x1p-52}, {1 - 0x1p-53, 1 - 0x1p-53}, {1 - 0x1p-52, 1 - 0x1p-53}, {4 - 0x1p-51, 2 - 0x1p-52},
		{4 + 0x1p-50, 2}, {4 - 0x1p-50, 2 - 0x1p-51 + 0x1p-52}, {9, 3}, {9 + 0x1p-49, 3 + 0x1p-51}, {9 - 0x1p-49, 3 - 0x1p-51},
		{(1<<26 - 1) * (1<<26 - 1), 1<<26 - 1},
		{least, 0x1p-537}, {4 * least, 0x1p-536}, {2 * least, math.Sqrt2 * 0x1p-537}, {normal, 0x1p-511}, {greatSub, 0x1p-511 - 0x1p-564},
		{0x1p1022, 0x1p511}, {most, 0x1p512 - 0x1p459}, {0x1p1023, math.Sqrt2 * 0x1p511},
	} {
		expect(t, "Sqrt", soft.Sqrt(x[0]), x[1], x[0])
	}
	next := stream(7)
	for range 3000 {
		root := float64(next()>>38 | 1) // of 26 bits: its square is a float
		square := root * root
		expect(t, "Sqrt", soft.Sqrt(square), root, square)
		for _, f := range []float64{math.Nextafter(square, 0), math.Nextafter(square, inf), 2 * square} {
			expect(t, "Sqrt", soft.Sqrt(f), math.Sqrt(f), f)
		}
	}
}
