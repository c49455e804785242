package nat

import (
	"slices"
	"testing"

	"plumbline/api"
)

// guarded is a copy of a with more behind its end, in its memory, which nobody may touch.
func guarded(a []uint64) []uint64 {
	behind := []uint64{1, 2, 3, 4, 5}
	return append(slices.Clone(a), behind...)[:len(a)]
}

func untouched(a, was []uint64) bool {
	return slices.Equal(a, was) && slices.Equal(a[len(a):len(a)+5], []uint64{1, 2, 3, 4, 5})
}

// spoil writes over all the memory that an answer gives its caller.
func spoil(a []uint64) {
	a = a[:cap(a)]
	for i := range a {
		a[i] = 0xDEAD
	}
}

func listCalls() map[string]func(a, b []uint64) [][]uint64 {
	one := func(a []uint64, _ api.Errno) [][]uint64 { return [][]uint64{a} }
	two := func(a, b []uint64, _ api.Errno) [][]uint64 { return [][]uint64{a, b} }
	shr := func(a []uint64, _ bool, _ api.Errno) [][]uint64 { return [][]uint64{a} }
	return map[string]func(a, b []uint64) [][]uint64{
		"Norm":       func(a, b []uint64) [][]uint64 { return one(Norm(a)) },
		"Add":        func(a, b []uint64) [][]uint64 { return one(Add(a, b)) },
		"Sub":        func(a, b []uint64) [][]uint64 { return one(Sub(a, b)) },
		"Mul":        func(a, b []uint64) [][]uint64 { return one(Mul(a, b)) },
		"Div":        func(a, b []uint64) [][]uint64 { return two(Div(a, b)) },
		"Sqrt":       func(a, b []uint64) [][]uint64 { return two(Sqrt(a)) },
		"Shl by 0":   func(a, b []uint64) [][]uint64 { return one(Shl(a, 0)) },
		"Shl by 1":   func(a, b []uint64) [][]uint64 { return one(Shl(a, 1)) },
		"Shl by 64":  func(a, b []uint64) [][]uint64 { return one(Shl(a, 64)) },
		"Shr by 0":   func(a, b []uint64) [][]uint64 { return shr(Shr(a, 0)) },
		"Shr by 3":   func(a, b []uint64) [][]uint64 { return shr(Shr(a, 3)) },
		"Shr by 64":  func(a, b []uint64) [][]uint64 { return shr(Shr(a, 64)) },
		"Cmp":        func(a, b []uint64) [][]uint64 { Cmp(a, b); return nil },
		"Bits":       func(a, b []uint64) [][]uint64 { Bits(a); return nil },
		"Zeros":      func(a, b []uint64) [][]uint64 { Zeros(a); return nil },
		"Bit":        func(a, b []uint64) [][]uint64 { Bit(a, 70); return nil },
		"Text":       func(a, b []uint64) [][]uint64 { Text(a); return nil },
		"Add to 0":   func(a, b []uint64) [][]uint64 { return one(Add(a, nil)) },
		"Sub of 0":   func(a, b []uint64) [][]uint64 { return one(Sub(a, nil)) },
		"Mul by 1":   func(a, b []uint64) [][]uint64 { return one(Mul(a, []uint64{1})) },
		"Div by 1":   func(a, b []uint64) [][]uint64 { return two(Div(a, []uint64{1})) },
		"Add itself": func(a, b []uint64) [][]uint64 { return one(Add(a, a)) },
		"Mul itself": func(a, b []uint64) [][]uint64 { return one(Mul(a, a)) },
		"Sub itself": func(a, b []uint64) [][]uint64 { return one(Sub(a, a)) },
		"Div itself": func(a, b []uint64) [][]uint64 { return two(Div(a, a)) },
	}
}

// What is handed in stays as it was, what is answered shares no memory with it, nor do two answers; and called again, the same is answered.
func TestMemory(t *testing.T) {
	l := slices.DeleteFunc(samples(), func(a []uint64) bool { return len(a) > 8 })
	for name, call := range listCalls() {
		for _, x := range l {
			for _, y := range l {
				a, b := guarded(x), guarded(y)
				answers := call(a, b)
				kept := make([][]uint64, len(answers))
				for i, c := range answers {
					kept[i] = slices.Clone(c)
				}
				for i, c := range answers {
					if !slices.Equal(c, kept[i]) {
						t.Fatalf("%s(%x, %x): two answers share memory", name, x, y)
					}
					spoil(c)
				}
				if !untouched(a, x) || !untouched(b, y) {
					t.Fatalf("%s(%x, %x): what was handed in is changed", name, x, y)
				}
				for i, c := range call(a, b) {
					if !slices.Equal(c, kept[i]) {
						t.Fatalf("%s(%x, %x): %x, and %x", name, x, y, kept[i], c)
					}
				}
			}
		}
	}
}

// What Of, Pow2 and Read answer is new each time.
func TestNewEachTime(t *testing.T) {
	for name, call := range map[string]func() []uint64{
		"Of":   func() []uint64 { return Of(5) },
		"Pow2": func() []uint64 { a, _ := Pow2(70); return a },
		"Read": func() []uint64 { a, _ := Read("18446744073709551621"); return a },
	} {
		first := call()
		was := slices.Clone(first)
		spoil(first)
		if again := call(); !slices.Equal(again, was) {
			t.Errorf("%s: %x, not %x", name, again, was)
		}
	}
}
