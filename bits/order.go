package bits

import (
	"cmp"
	mathbits "math/bits"

	"plumbline/api"
)

// Compare tells how a's number stands to b's.
func Compare(a, b uint64) (int, api.Errno) {
	order := 0
	e := ordered(a, b, func(x, y int64) { order = cmp.Compare(x, y) })
	return order, e
}

// Up answers the next word above w.
func Up(w uint64) (uint64, api.Errno) {
	var next uint64
	e := ordered(w, infinity, func(at, end int64) { next = wordAt(min(at+1, end)) })
	return next, e
}

// Down answers the next word below w.
func Down(w uint64) (uint64, api.Errno) {
	var next uint64
	e := ordered(w, Negate(infinity), func(at, end int64) { next = wordAt(max(at-1, end)) })
	return next, e
}

// Steps counts how often Up leads from the lesser to the greater.
func Steps(a, b uint64) (uint64, api.Errno) {
	var steps uint64
	// Unsigned: from one infinity to the other it is more than an int64 holds.
	e := ordered(a, b, func(x, y int64) { steps = uint64(max(x, y)) - uint64(min(x, y)) })
	return steps, e
}

// Log answers the exponent of the greatest power of two that is not above the word's number, without its sign.
func Log(w uint64) (int, api.Errno) {
	p, e := Parts(w)
	if e != api.OK || p.Man == 0 {
		return 0, api.ErrArg
	}
	return p.Exp + mathbits.Len64(p.Man) - 1, api.OK
}

// ordered turns both words into their places, which rise as their numbers do, and hands these to use; a NaN has no place.
func ordered(a, b uint64, use func(x, y int64)) api.Errno {
	if Class(a) == api.ClassNaN || Class(b) == api.ClassNaN {
		return api.ErrArg
	}
	place := func(w uint64) int64 {
		size := int64(w &^ signBit)
		if w&signBit != 0 {
			return -size
		}
		return size
	}
	use(place(a), place(b))
	return api.OK
}

func wordAt(place int64) uint64 {
	if place < 0 {
		return signBit | uint64(-place)
	}
	return uint64(place)
}
