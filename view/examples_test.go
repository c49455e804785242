package view_test

import (
	"testing"

	"plumbline/api"
	"plumbline/view"
)

// The rows of the chapter's table, one by one.

func TestRowOne(t *testing.T) {
	v := made(t, 2, 3, 1, 2, 3, 4, 5, 6)
	float(t, "At", v.At(1, 0), 4)
	float(t, "T, At", v.T().At(0, 1), 4)
	if n := v.Row(1).Len(); n != 3 {
		t.Error(n)
	}
	isNone(t, "Col", v.Col(3))
}

func TestRowTwo(t *testing.T) {
	v := made(t, 2, 3, 1, 2, 3, 4, 5, 6)
	expect(t, "Part, Set", v.Part(0, 1, 2, 2).Set(1, 1, 9), api.OK)
	float(t, "At", v.At(1, 2), 9)
	float(t, "Diag, Get", v.Diag().Get(1), 5)
}

func TestRowThree(t *testing.T) {
	v := made(t, 2, 3, 1, 2, 3, 4, 5, 6)
	if !v.Row(0).Shares(v.Col(0)) || v.Row(0).Shares(v.Row(1)) || v.Copy().Shares(v) {
		t.Error("Shares")
	}
}

func TestRowFour(t *testing.T) {
	v := made(t, 2, 3, 1, 2, 3, 4, 5, 6)
	_, e := view.Of(matrix(1, 2, 1))
	expect(t, "Of", e, api.ErrArg)
	_, e = view.New(513, 1)
	expect(t, "New", e, api.ErrArg)
	expect(t, "Set", v.Set(2, 0, 1), api.ErrArg)
	expect(t, "Set of none", view.View{}.Set(0, 0, 1), api.ErrNil)
}
