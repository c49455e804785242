package bits

import (
	"strings"

	"plumbline/api"
)

const (
	digits   = "0123456789ABCDEF"
	textSize = 16
)

// Text writes the word to the base 16.
func Text(w uint64) string {
	var text strings.Builder
	for shift := 64 - 4; shift >= 0; shift -= 4 {
		text.WriteByte(digits[w>>shift&15])
	}
	return text.String()
}

// Read takes a word's text.
func Read(s string) (uint64, api.Errno) {
	if len(s) != textSize {
		return 0, api.ErrBytes
	}
	var w uint64
	for _, r := range s {
		digit := strings.IndexRune(digits, r)
		if digit < 0 {
			return 0, api.ErrBytes
		}
		w = w<<4 | uint64(digit)
	}
	return w, api.OK
}
