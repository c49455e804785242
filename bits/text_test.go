package bits

import (
	"fmt"
	"strings"
	"testing"

	"plumbline/api"
)

// P1.5, P0.10
func TestText(t *testing.T) {
	for _, w := range append(manyWords(), append(nans(), 0x0123456789ABCDEF, 0xFEDCBA9876543210)...) {
		s := Text(w)
		if s != fmt.Sprintf("%016X", w) {
			t.Errorf("%x: %s", w, s)
		}
		if r, e := Read(s); r != w || e != api.OK {
			t.Errorf("%s: %x, %v", s, r, e)
		}
	}
}

// P1.5
func TestReadWrong(t *testing.T) {
	const good = "3FF0123456789ABC"
	l := []string{
		"", "0", "0x3FF0000000000000", "3ff0123456789abc", "3FF0123456789ABc", "3FF0123456789ABG",
		" " + good, good + " ", good + "\n", good + "0", "0" + good, good[1:], good[:15], good + good,
		"+" + good[1:], "-" + good[1:], " " + good[1:], good[:15] + " ", good[:15] + "\x00", good[:15] + "\n", "3FF0_23456789ABC",
		"\xff" + good[1:], good[:15] + "\xff", strings.Repeat("\xff", 16),
		"é" + good[2:], good[:13] + "\uFFFD", strings.Repeat("é", 8), strings.Repeat("é", 16), strings.Repeat("٣", 16), strings.Repeat("0", 1<<20),
	}
	for c := range 256 {
		if !strings.ContainsRune("0123456789ABCDEF", rune(c)) {
			l = append(l, good[:7]+string([]byte{byte(c)})+good[8:])
		}
	}
	for _, s := range l {
		if w, e := Read(s); w != 0 || e != api.ErrBytes {
			t.Errorf("%.40q: %x, %v", s, w, e)
		}
	}
}
