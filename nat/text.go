package nat

import (
	"iter"
	"math/bits"
	"slices"

	"plumbline/api"
)

// A block is the greatest power of ten that fits in a limb.
const (
	blockDigits        = 19
	block       uint64 = 1e19
)

// Text writes the number in decimal digits.
func Text(a []uint64) (string, api.Errno) {
	a, e := taken(a)
	if e != api.OK {
		return "", e
	}
	if len(a) == 0 {
		return "0", api.OK
	}
	var text []byte
	for digit := range digits(a) {
		text = append(text, digit)
	}
	slices.Reverse(text)
	return string(text), api.OK
}

// Read takes a number's text.
func Read(s string) ([]uint64, api.Errno) {
	if !isText(s) {
		return nil, api.ErrArg
	}
	var a []uint64
	for len(s) > 0 {
		first := (len(s)-1)%blockDigits + 1
		a = appendBlock(a, s[:first])
		s = s[first:]
	}
	return answered(a)
}

// digits goes over the number's decimal digits, the lowest first.
func digits(a []uint64) iter.Seq[byte] {
	return func(yield func(byte) bool) {
		left := clone(a)
		for len(left) > 0 {
			rest := quotients(left, left, block)
			left = trim(left)
			for range blockDigits {
				if len(left) == 0 && rest == 0 {
					return
				}
				if !yield('0' + byte(rest%10)) {
					return
				}
				rest /= 10
			}
		}
	}
}

func isText(s string) bool {
	if len(s) == 0 || len(s) > api.MaxDigits || len(s) > 1 && s[0] == '0' {
		return false
	}
	for i := range len(s) {
		if s[i] < '0' || s[i] > '9' {
			return false
		}
	}
	return true
}

// appendBlock answers a times a block, and the text's number added to it, in the memory of a, if it has room.
func appendBlock(a []uint64, text string) []uint64 {
	var carry uint64
	for i := range len(text) {
		carry = carry*10 + uint64(text[i]-'0')
	}
	times := func(x uint64) uint64 {
		high, low := bits.Mul64(x, block)
		low, one := bits.Add64(low, carry, 0)
		carry = high + one
		return low
	}
	for i := range len(a) {
		a[i] = times(a[i])
	}
	if carry != 0 {
		a = append(a, carry)
	}
	return a
}
