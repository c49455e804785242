package reflect_test

import (
	"testing"

	"plumbline/api"
	"plumbline/reflect"
)

// The rows of the chapter's table, one by one.

func TestRowOne(t *testing.T) {
	made(t, few(3, 4), few(1, 0.5), 1.6, -5)
}

func TestRowTwo(t *testing.T) {
	made(t, few(2, 0), few(1, 0), 0, 2)
	made(t, few(7), few(1), 0, 7)
}

func TestRowThree(t *testing.T) {
	h, _, e := reflect.Make(3, 4)
	if e != api.OK {
		t.Fatal(e)
	}
	left(matrix(2, 1, 3, 4), 0, 0, h).is(t, "Left", matrix(2, 1, -5, 0))
}
