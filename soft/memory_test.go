package soft_test

import (
	"slices"
	"testing"

	"plumbline/api"
	"plumbline/soft"
)

// guarded is a copy of d with more behind its limbs' end, in their memory, which nobody may touch.
func guarded(d api.Dyad) api.Dyad {
	d.M = append(slices.Clone(d.M), 1, 2, 3, 4, 5)[:len(d.M)]
	return d
}

func untouched(d, was api.Dyad) bool {
	return d.Neg == was.Neg && d.E == was.E && slices.Equal(d.M, was.M) && slices.Equal(d.M[len(d.M):len(d.M)+5], []uint64{1, 2, 3, 4, 5})
}

// What is handed in stays as it was; and called again, the same is answered.
func TestMemory(t *testing.T) {
	l := append(append(zeros(), sizes()...), append(long(), wrong()...)...)
	for i, x := range l {
		for _, y := range l[i%3:] {
			a, b := guarded(x), guarded(y)
			f, e := soft.Quot(a, b)
			again, g := soft.Quot(a, b)
			if !untouched(a, x) || !untouched(b, y) || !alike(f, again) || e != g {
				t.Fatalf("%s by %s: %x, %v; %x, %v", short(x), short(y), f, e, again, g)
			}
		}
		a := guarded(x)
		f, e := soft.Root(a)
		again, g := soft.Root(a)
		if !untouched(a, x) || !alike(f, again) || e != g {
			t.Fatalf("the root of %s: %x, %v; %x, %v", short(x), f, e, again, g)
		}
		if itself, e := soft.Quot(a, a); !untouched(a, x) || e == api.OK && itself != 1 {
			t.Fatalf("%s by itself: %x, %v", short(x), itself, e)
		}
	}
}
