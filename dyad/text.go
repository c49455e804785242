package dyad

import (
	"strconv"

	"plumbline/api"
	"plumbline/bits"
	"plumbline/nat"
)

// manBits is how many bits the mantissa has that a number is rounded from.
const manBits = 64

// Float answers the float that is nearest to d.
func Float(d api.Dyad) (float64, api.Errno) {
	return handed(d, rounded)
}

// Text writes d as a decimal number, and the power of 2 behind it.
func Text(d api.Dyad) (string, api.Errno) {
	return handed(d, written)
}

func rounded(neg bool, size []uint64, at int) (float64, api.Errno) {
	n, _ := nat.Bits(size)
	below := max(n-manBits, 0)
	top, lost, _ := nat.Shr(size, below)
	p := api.Parts{Neg: neg, Exp: at + below}
	if len(top) > 0 {
		p.Man = top[0]
	}
	// Where something is lost, Man has all of its bits: then Round needs not know how much it is.
	w, e := bits.Round(p, lost)
	return bits.Float(w), e
}

func written(neg bool, size []uint64, at int) (string, api.Errno) {
	text, e := nat.Text(size)
	if neg {
		text = "-" + text
	}
	if at != 0 {
		text += "p" + strconv.Itoa(at)
	}
	return text, e
}
