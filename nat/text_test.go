package nat

import (
	"math"
	"math/big"
	"strings"
	"testing"

	"plumbline/api"
)

// P2.4, P2.5, P0.10
func TestTextAndBack(t *testing.T) {
	l := append(samples(), ones(50), someOf(200, stream(6)))
	for n, power := 0, big.NewInt(1); n < 130; n++ {
		for _, off := range []int64{-1, 0, 1} {
			l = append(l, limbsOf(new(big.Int).Add(power, big.NewInt(off))))
		}
		power = new(big.Int).Mul(power, big.NewInt(10))
	}
	for n := range uint64(1200) {
		l = append(l, []uint64{n})
	}
	for _, a := range l {
		s, e := Text(a)
		if s != value(a).String() || e != api.OK {
			t.Errorf("%x: %s, %v", a, s, e)
		}
		b, e := Read(s)
		expect(t, "Read of Text", b, e, value(a))
	}
}

// P2.4: the greatest number has just MaxDigits digits; of as many, the next one is too long.
func TestLongTexts(t *testing.T) {
	s, e := Text(justLong())
	most := value(ones(api.MaxLimbs))
	if s != most.String() || len(s) != api.MaxDigits || e != api.OK {
		t.Error(len(s), e)
	}
	a, e := Read(s)
	expect(t, "Read", a, e, most)
	next := new(big.Int).Add(most, big.NewInt(1)).String()
	for _, long := range []string{next, strings.Repeat("9", api.MaxDigits)} {
		a, e = Read(long)
		refuse(t, "Read", a, e, api.ErrLong)
	}
	nines := strings.Repeat("9", api.MaxDigits-1)
	want, _ := new(big.Int).SetString(nines, 10)
	a, e = Read(nines)
	expect(t, "Read", a, e, want)
	for _, wrong := range []string{strings.Repeat("9", api.MaxDigits+1), strings.Repeat("1", 1<<20), next + " ", next[1:] + "x", "0" + next, strings.Repeat("0", api.MaxDigits), strings.Repeat("0", api.MaxDigits+1)} {
		a, e = Read(wrong)
		refuse(t, "Read", a, e, api.ErrArg)
	}
}

// P2.4
func TestReadWrong(t *testing.T) {
	l := []string{
		"", "00", "01", "000", "0000000000000000000000", "+1", "-1", "-0", "+0", "-", "+", " ", " 1", "1 ", "1\n", "\t1", "1\x00",
		"1_000", "1,000", "0x1", "1e3", "1.0", ".5", "0b1", "0 0", "12345678901234567890x", "x12345678901234567890", "1234567890 1234567890",
		"٣", "1٣", "３", "²", "1\xff", "\xff", "\uFFFD", "NaN", "Inf", "one",
	}
	for c := range 256 {
		if c < '0' || c > '9' {
			l = append(l, string([]byte{byte(c)}), string([]byte{'1', byte(c), '2'}), "12345678901234567890"+string([]byte{byte(c)}))
		}
	}
	for _, s := range l {
		if a, e := Read(s); len(a) != 0 || e != api.ErrArg {
			t.Errorf("%.40q: %x, %v", s, a, e)
		}
	}
}

// P2.4: texts to either side of a limb's, and of a block's, end.
func TestRead(t *testing.T) {
	for s, want := range map[string][]uint64{
		"0":                    nil,
		"9":                    {9},
		"10":                   {10},
		"9999999999999999999":  {9999999999999999999},
		"10000000000000000000": {10000000000000000000},
		"18446744073709551615": {math.MaxUint64},
		"18446744073709551617": {1, 1},
		"340282366920938463463374607431768211455": {math.MaxUint64, math.MaxUint64},
		"340282366920938463463374607431768211456": {0, 0, 1},
	} {
		a, e := Read(s)
		expect(t, s, a, e, value(want))
		if text, e := Text(want); text != s || e != api.OK {
			t.Error(s, text, e)
		}
	}
}

// A number's digits may be left at any place, and gone through again.
func TestDigitsLeft(t *testing.T) {
	a := []uint64{7, 8, 9}
	all := digits(a)
	text, _ := Text(a)
	for n := range len(text) + 2 {
		var got []byte
		for d := range all {
			if len(got) == n {
				break
			}
			got = append([]byte{d}, got...)
		}
		if want := text[len(text)-min(n, len(text)):]; string(got) != want {
			t.Errorf("%d digits: %s, not %s", n, got, want)
		}
	}
}
