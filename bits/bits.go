// Package bits is layer 1: a float's parts, and back, by shifts and conversions of integers.
package bits

import (
	"math"

	"plumbline/api"
)

const (
	signBit      uint64 = 1 << 63
	fractionSize        = 52
	hiddenBit    uint64 = 1 << fractionSize
	topField            = 2047
	infinity     uint64 = topField << fractionSize
	nan          uint64 = infinity | hiddenBit>>1
	leastExp            = -1074
)

// Class tells what the word is.
func Class(w uint64) api.Class {
	class := api.ClassZero
	switch field(w) {
	case topField:
		class = api.ClassInf
		fallthrough // of both ends of the field, a fraction makes the class behind
	case 0:
		if fraction(w) != 0 {
			class++
		}
	default:
		class = api.ClassNormal
	}
	return class
}

func field(w uint64) int { return int(w >> fractionSize & topField) }

func fraction(w uint64) uint64 { return w & (hiddenBit - 1) }

// Of answers the float's word.
func Of(f float64) uint64 { return oneNaN(math.Float64bits(f)) }

// Float answers the word's float.
func Float(w uint64) float64 { return math.Float64frombits(w) }

// Negate answers the word with its sign turned.
func Negate(w uint64) uint64 { return oneNaN(w ^ signBit) }

func oneNaN(w uint64) uint64 {
	if Class(w) == api.ClassNaN {
		return nan
	}
	return w
}
