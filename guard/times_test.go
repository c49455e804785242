package guard_test

import (
	"math"
	"testing"

	"plumbline/guard"
)

func times(t *testing.T, x float64, p int, want float64) {
	t.Helper()
	if f := guard.Times(x, p); !alike(f, want) {
		t.Errorf("%x times 2^%d: %x, not %x", x, p, f, want)
	}
	if f := guard.Times(-x, p); !alike(f, -want) {
		t.Errorf("%x times 2^%d: %x, not %x", -x, p, f, -want)
	}
}

// farthest are powers as far apart as an int may be, and ones at which a sum with an exponent would wrap round.
func farthest() (low, high []int) {
	low = []int{math.MinInt, math.MinInt + 1, math.MinInt + 52, math.MinInt + 1023, math.MinInt + 1074, math.MinInt + 1127,
		least32 - 1, least32, -1 << 20, -4096, -2201, -2200, -2199, -2148, -2100}
	for _, p := range low {
		high = append(high, -1-p)
	}
	return low, append(high, math.MaxInt-1, 4097, 4096, 4095, 2149, 2101, 2099)
}

// P5.3: exact ones.
func TestTimes(t *testing.T) {
	times(t, 1, 0, 1)
	times(t, 1, 1, 2)
	times(t, 1, -1, 0.5)
	times(t, 0.1, 4, 1.6)
	times(t, 3, 1000, 3*0x1p1000)
	times(t, 1, 1023, 0x1p1023)
	times(t, 1, -1022, normal)
	times(t, 1, -1023, 0x1p-1023)
	times(t, 1, -1074, least)
	times(t, most, -2000, timesOf(most, -2000))
	times(t, most, -1, most/2)
	times(t, most/2, 1, most)
	times(t, 0x1p1023, -2097, least)
	times(t, least, 2097, 0x1p1023)
	times(t, normal, -52, least)
}

// P5.3: a NaN, an infinity, a zero is itself, whatever the power.
func TestTimesOfItself(t *testing.T) {
	low, high := farthest()
	for _, p := range append(append(low, high...), -1, 0, 1, 1023, -1074) {
		for _, f := range append(endlessFloats(), 0, minus) {
			times(t, f, p, f)
		}
	}
}

// P5.3: just between two floats, and nearer to one of them. (Normal results are exact.)
func TestTimesRounded(t *testing.T) {
	for man := 0.0; man < 70; man++ {
		for down := range 8 {
			want := math.RoundToEven(math.Ldexp(man, -down)) * least
			times(t, man*least, -down, want)
			times(t, man, -1074-down, want)
			times(t, man*0x1p1000, -2074-down, want)
		}
	}
	times(t, 1+0x1p-52, -1022, normal+least)
	times(t, 1+0x1p-52, -1023, 0x1p-1023)           // the tie goes down
	times(t, 1+3*0x1p-52, -1023, 0x1p-1023+2*least) // and up
	times(t, 2-0x1p-52, -1023, normal)              // up to the normal ones
	times(t, 2-0x1p-51, -1023, greatSub)
	times(t, 2-3*0x1p-52, -1023, greatSub-least) // to the even one
	times(t, normal+least, -1, 0x1p-1023)
	times(t, normal+3*least, -1, 0x1p-1023+2*least)
	times(t, 2*normal-least, -1, normal)
	times(t, greatSub, -1, 0x1p-1023)
}

// P5.3: between 0 and the least float: its half is 0, what is above it is that one.
func TestTimesAboutTheLeast(t *testing.T) {
	times(t, 1, -1075, 0)
	times(t, 1+0x1p-52, -1075, least)
	times(t, 1-0x1p-53, -1075, 0)
	times(t, 2-0x1p-52, -1075, least)
	times(t, 2-0x1p-52, -1076, 0)
	times(t, 1, -1076, 0)
	times(t, 1.5, -1075, least)
	times(t, 1.5, -1074, 2*least)
	times(t, 1.5, -1076, 0)
	times(t, 3, -1075, 2*least)
	times(t, 3, -1076, least)
	times(t, 3, -1077, 0)
	times(t, least, -1, 0)
	times(t, 2*least, -1, least)
	times(t, 2*least, -2, 0)
	times(t, 3*least, -2, least)
	times(t, 3*least, -3, 0)
	times(t, greatSub, -52, least)
	times(t, greatSub, -53, 0)
	times(t, normal, -53, 0)
	times(t, most, -2098, least)
	times(t, most, -2099, 0)
	times(t, 0x1p1023, -2098, 0)
}

// P5.3: too great.
func TestTimesTooGreat(t *testing.T) {
	times(t, 1, 1024, inf)
	times(t, 1, 1023, 0x1p1023)
	times(t, most, 1, inf)
	times(t, 0x1p1023, 1, inf)
	times(t, 2-0x1p-52, 1023, most)
	times(t, 1-0x1p-53, 1024, most)
	times(t, least, 2098, inf)
	times(t, greatSub, 2047, inf)
	times(t, greatSub, 2046, timesOf(greatSub, 2046))
	times(t, 3*least, 2097, inf)
	times(t, 3*least, 2096, 1.5*0x1p1023)
}

// P5.3: a float below the normal ones comes up again, without a bit lost.
func TestTimesUpAgain(t *testing.T) {
	for k := range 52 {
		f := float64(uint64(1)<<k+uint64(k&1)) * least
		for _, p := range []int{1, 2, 51, 52, 53, 1000, 1074} {
			times(t, f, p, timesOf(f, p))
			times(t, guard.Times(f, p), -p, f)
		}
		times(t, f, 1074, float64(uint64(1)<<k+uint64(k&1)))
	}
	times(t, greatSub, 1, 2*greatSub)
	times(t, greatSub, 1022, 1-0x1p-52)
}

// P5.3: powers that are far apart.
func TestTimesFar(t *testing.T) {
	low, high := farthest()
	for _, x := range append(anyFloats(200, 11), least, greatSub, normal, 1, 3, most) {
		size := math.Abs(x)
		for _, p := range low {
			times(t, size, p, 0)
		}
		for _, p := range high {
			times(t, size, p, inf)
		}
	}
}

// P5.3: any floats, by each power, held against the library's numbers; and those about the ends.
func TestTimesOfAny(t *testing.T) {
	next := stream(12)
	for _, x := range anyFloats(40000, 13) {
		p := int(next()%4400) - 2200
		times(t, x, p, timesOf(x, p))
		// to just about the least floats, and to just about the greatest ones
		_, exp := math.Frexp(x)
		low, high := -exp-1080+int(next()%64), 1030-exp-int(next()%10)
		times(t, x, low, timesOf(x, low))
		times(t, x, high, timesOf(x, high))
	}
}
