package nat

import (
	"math/bits"

	"plumbline/api"
)

const maxBits = api.MaxLimbs * limbSize

// Shl answers a times 2^k.
func Shl(a []uint64, k int) ([]uint64, api.Errno) {
	a, e := taken(a)
	if e != api.OK || k < 0 {
		return nil, api.ErrArg
	}
	if len(a) > 0 && k > maxBits-bitsOf(a) {
		return nil, api.ErrLong
	}
	return shiftedUp(a, k), api.OK
}

// Shr answers a divided by 2^k, and tells if the rest, which is lost, was not 0.
func Shr(a []uint64, k int) (b []uint64, lost bool, e api.Errno) {
	a, e = taken(a)
	if e != api.OK || k < 0 {
		return nil, false, api.ErrArg
	}
	return shiftedDown(a, k), len(a) > 0 && zeros(a) < k, api.OK
}

// Bits answers the least k for which a is below 2^k.
func Bits(a []uint64) (int, api.Errno) {
	a, e := taken(a)
	return bitsOf(a), e
}

// Zeros tells how often 2 divides a.
func Zeros(a []uint64) (int, api.Errno) {
	a, e := taken(a)
	return zeros(a), e
}

// Bit tells if a's bit i is 1.
func Bit(a []uint64, i int) bool {
	return i >= 0 && limb(a, i/limbSize)>>(i%limbSize)&1 == 1
}

// Pow2 answers 2^k.
func Pow2(k int) ([]uint64, api.Errno) {
	return Shl(Of(1), k)
}

func bitsOf(a []uint64) int {
	if len(a) == 0 {
		return 0
	}
	return len(a)*limbSize - bits.LeadingZeros64(a[len(a)-1])
}

func zeros(a []uint64) int {
	for i := range len(a) {
		if a[i] != 0 {
			return i*limbSize + bits.TrailingZeros64(a[i])
		}
	}
	return 0
}

func shiftedUp(a []uint64, k int) []uint64 {
	if len(a) == 0 { // whatever k is, nothing is made room for
		return nil
	}
	limbs, shift := k/limbSize, k%limbSize
	c := make([]uint64, limbs+len(a)+1)
	var carry uint64
	move := func(x uint64) uint64 {
		low := x<<shift | carry
		carry = x >> (limbSize - shift)
		return low
	}
	for i := range len(a) + 1 {
		c[limbs+i] = move(limb(a, i))
	}
	return trim(c)
}

func shiftedDown(a []uint64, k int) []uint64 {
	limbs, shift := k/limbSize, k%limbSize
	if limbs >= len(a) {
		return nil
	}
	c := make([]uint64, len(a)-limbs)
	for i := range len(c) {
		c[i] = a[limbs+i]>>shift | limb(a, limbs+i+1)<<(limbSize-shift)
	}
	return trim(c)
}

// lowest answers the lowest k bits of a.
func lowest(a []uint64, k int) []uint64 {
	limbs, shift := k/limbSize, k%limbSize
	if limbs >= len(a) {
		return clone(a)
	}
	c := clone(a[:limbs+1])
	c[limbs] &= 1<<shift - 1
	return trim(c)
}
