package soft_test

import (
	"testing"

	"plumbline/api"
	"plumbline/soft"
)

// The rows of the chapter's table, one by one.

func TestRowOne(t *testing.T) {
	expect(t, "Add", soft.Add(1, 0x1p-53), 1)
	expect(t, "Add", soft.Add(0.1, 0.2), 0.30000000000000004)
	expect(t, "Add", soft.Add(minus, minus), minus)
	expect(t, "Add", soft.Add(1, -1), 0)
}

func TestRowTwo(t *testing.T) {
	expect(t, "Mul", soft.Mul(1e200, 1e200), inf)
	expect(t, "Mul", soft.Mul(minus, 1), minus)
	expect(t, "Mul", soft.Mul(0, inf), nan)
}

func TestRowThree(t *testing.T) {
	expect(t, "Div", soft.Div(1, 3), 0.3333333333333333)
	expect(t, "Div", soft.Div(1, minus), -inf)
	expect(t, "Div", soft.Div(0, 0), nan)
	expect(t, "Sqrt", soft.Sqrt(2), 1.4142135623730951)
	expect(t, "Sqrt", soft.Sqrt(minus), minus)
	expect(t, "Sqrt", soft.Sqrt(-1), nan)
}

func TestRowFour(t *testing.T) {
	expect(t, "Fma", soft.Fma(1+0x1p-52, 1-0x1p-52, -1), -0x1p-104)
	refuseQuot(t, api.Dyad{M: []uint64{1}}, api.Dyad{}, api.ErrZero)
}
