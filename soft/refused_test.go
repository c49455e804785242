package soft_test

import (
	"testing"

	"plumbline/api"
	"plumbline/soft"
)

func refuseQuot(t *testing.T, a, b api.Dyad, want api.Errno) {
	t.Helper()
	if f, e := soft.Quot(a, b); !alike(f, 0) || e != want {
		t.Errorf("%s by %s: %x, %v, not %v", short(a), short(b), f, e, want)
	}
}

func refuseRoot(t *testing.T, a api.Dyad, want api.Errno) {
	t.Helper()
	if f, e := soft.Root(a); !alike(f, 0) || e != want {
		t.Errorf("the root of %s: %x, %v, not %v", short(a), f, e, want)
	}
}

// P4.3, P0.9: a dyad that may not be, as the first and as the second one: ahead of a division by 0, and of what is too long.
func TestMayNotBe(t *testing.T) {
	others := append(append(zeros(), sizes()[:6]...), append(long(), wrong()...)...)
	for _, d := range wrong() {
		for _, o := range others {
			refuseQuot(t, d, o, api.ErrArg)
			refuseQuot(t, negated(o), d, api.ErrArg)
		}
		refuseRoot(t, d, api.ErrArg)
		refuseRoot(t, negated(d), api.ErrArg)
	}
}

// P4.3: of what is 0, of what is not, and of what is too long: ahead of that.
func TestByZero(t *testing.T) {
	for _, by := range zeros() {
		for _, d := range append(append(zeros(), sizes()...), long()...) {
			refuseQuot(t, d, by, api.ErrZero)
			refuseQuot(t, negated(d), by, api.ErrZero)
		}
	}
}

// P4.3: more than 2048 limbs, in a or b; of 0 too.
func TestTooLong(t *testing.T) {
	for _, d := range long() {
		for _, o := range append(sizes(), long()...) {
			refuseQuot(t, d, o, api.ErrLong)
			refuseQuot(t, o, negated(d), api.ErrLong)
		}
		for _, o := range zeros() {
			refuseQuot(t, o, d, api.ErrLong)
		}
		refuseRoot(t, d, api.ErrLong)
	}
}

// P4.3: a root of one below 0: ahead of what is too long.
func TestRootBelowZero(t *testing.T) {
	for _, d := range append(sizes(), long()...) {
		refuseRoot(t, negated(d), api.ErrArg)
	}
}
