package fault_test

import (
	"slices"
	"testing"

	"thatch/api"
	"thatch/fault"
)

func TestOf(t *testing.T) {
	for _, c := range []struct {
		first, second bool
		want          api.Errno
		steps         int
	}{
		{true, true, api.OK, 3},
		{true, false, api.ErrLoop, 2},
		{false, true, api.ErrName, 1},
		{false, false, api.ErrName, 1},
	} {
		steps := 0
		e := fault.Of(func() {
			steps++
			fault.Unless(c.first, api.ErrName)
			steps++
			fault.Unless(c.second, api.ErrLoop)
			steps++
		})
		if e != c.want || steps != c.steps {
			t.Error(c, e, steps)
		}
	}
}

func TestAnswer(t *testing.T) {
	half := func(n int) func() int {
		return func() int {
			fault.Unless(n%2 == 0, api.ErrArg)
			return n / 2
		}
	}
	if n, e := fault.Answer(half(14)); n != 7 || e != api.OK {
		t.Error(n, e)
	}
	if n, e := fault.Answer(half(15)); n != 0 || e != api.ErrArg {
		t.Error(n, e)
	}
	list, e := fault.Answer(func() []string { return []string{"a", "b"} })
	if e != api.OK || !slices.Equal(list, []string{"a", "b"}) {
		t.Error(list, e)
	}
}

func TestRaise(t *testing.T) {
	for _, e := range []api.Errno{api.OK, api.ErrArg, api.ErrSum} {
		went := false
		got := fault.Of(func() {
			fault.Raise(e)
			went = true
		})
		if got != e || went != (e == api.OK) {
			t.Error(e, got, went)
		}
	}
}

func TestMust(t *testing.T) {
	half := func(n int) (int, api.Errno) {
		if n%2 != 0 {
			return n, api.ErrArg
		}
		return n / 2, api.OK
	}
	for _, c := range []struct {
		n, want int
		e       api.Errno
	}{
		{28, 7, api.OK},
		{14, 0, api.ErrArg},
		{7, 0, api.ErrArg},
	} {
		n, e := fault.Answer(func() int { return fault.Must(half(fault.Must(half(c.n)))) })
		if n != c.want || e != c.e {
			t.Error(c, n, e)
		}
	}
}
