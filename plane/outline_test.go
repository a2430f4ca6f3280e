package plane_test

import (
	"math"
	"slices"
	"testing"

	"thatch/api"
	"thatch/plane"
)

// outline takes coordinates by twos.
func outline(n ...int) []api.Pt {
	var list []api.Pt
	for i := 0; i < len(n); i += 2 {
		list = append(list, pt(n[i], n[i+1]))
	}
	return list
}

func TestCheckCorners(t *testing.T) {
	for _, c := range []struct {
		name    string
		corners []api.Pt
		want    api.Errno
	}{
		{"a square", outline(0, 0, 9, 0, 9, 9, 0, 9), api.OK},
		{"all there is", outline(0, 0, 400, 0, 400, 400, 0, 400), api.OK},
		{"straight corners", outline(0, 0, 4, 0, 9, 0, 5, 4, 0, 9, 0, 1), api.OK},
		{"U -1", outline(0, 0, 9, 0, -1, 9), api.ErrArg},
		{"U 401", outline(0, 0, 401, 0, 0, 9), api.ErrArg},
		{"V -1", outline(0, -1, 9, 0, 0, 9), api.ErrArg},
		{"V 401", outline(0, 0, 9, 0, 0, 401), api.ErrArg},
		{"numbers whose products do not fit", outline(0, 0, math.MaxInt, 0, 0, math.MinInt), api.ErrArg},
		{"two equal corners, and V 401", outline(0, 0, 0, 0, 0, 401), api.ErrArg},
		{"two equal corners", outline(0, 0, 9, 0, 0, 9, 9, 0), api.ErrTwice},
		{"two equal corners on one line", outline(0, 0, 9, 0, 0, 0), api.ErrTwice},
		{"clockwise", outline(0, 0, 0, 9, 9, 9, 9, 0), api.ErrScope},
		{"on one line", outline(0, 0, 4, 4, 9, 9), api.ErrScope},
		{"there and back", outline(0, 0, 9, 9, 4, 4), api.ErrScope},
		{"back over the side ahead", outline(0, 0, 9, 0, 4, 0, 4, 9), api.ErrScope},
		{"a dent", outline(0, 0, 9, 0, 4, 4, 0, 9), api.ErrScope},
		{"a star", outline(2, 0, 5, 9, 0, 4, 9, 4, 1, 9), api.ErrScope},
		{"twice around", outline(0, 0, 6, 0, 6, 6, 0, 6, 1, 1, 5, 1, 5, 5, 1, 5), api.ErrScope},
	} {
		if e := plane.CheckCorners(c.corners); e != c.want {
			t.Errorf("%s: %d, not %d", c.name, e, c.want)
		}
	}
}

func TestInside(t *testing.T) {
	corners := outline(0, 0, 4, 0, 8, 0, 8, 6, 0, 2)
	var rows []string
	for v := -1; v <= 7; v++ {
		row := ""
		for u := -1; u <= 9; u++ {
			n := plane.Inside(corners, pt(u, v))
			row += string("-0+"[1+max(-1, min(1, n))])
		}
		rows = append(rows, row)
	}
	if !slices.Equal(rows, []string{
		"-----------",
		"-000000000-",
		"-0+++++++0-",
		"-0+++++++0-",
		"---0+++++0-",
		"-----0+++0-",
		"-------0+0-",
		"---------0-",
		"-----------",
	}) {
		t.Error(rows)
	}
	for _, p := range []api.Pt{pt(math.MaxInt, 1), pt(1, math.MinInt), pt(math.MinInt, math.MinInt), pt(1<<32, 1<<32), pt(401, 400), pt(400, 401)} {
		if n := plane.Inside(outline(0, 0, 400, 0, 400, 400, 0, 400), p); n >= 0 {
			t.Error(p, n)
		}
	}
}
