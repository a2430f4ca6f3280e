package mend_test

import (
	"math"
	"slices"
	"testing"

	"thatch/api"
	"thatch/mend"
)

// P8.1 (Check).

// checked is what is changed in the works of the examples, and the error that they have then.
type checked struct {
	name string
	do   func(w *api.Works)
	want api.Errno
}

func checkAll(t *testing.T, list []checked) {
	t.Helper()
	for _, c := range list {
		if e := mend.Check(changed(c.do)); e != c.want {
			t.Errorf("%s: %d, not %d", c.name, e, c.want)
		}
	}
}

// good is a slope that may be.
func good() api.Slope { return slope(50, 30, 60, 2, 15) }

func TestCheckSlopes(t *testing.T) {
	slopes := func(list ...api.Slope) func(w *api.Works) {
		return func(w *api.Works) { w.Slopes = list }
	}
	long := slope(50, 30, 60, 2, make([]int, 13)...)
	checkAll(t, []checked{
		{"as they are", func(w *api.Works) {}, api.OK},
		{"none", slopes(), api.ErrArg},
		{"4", slopes(good(), good(), good(), good()), api.OK},
		{"5", slopes(good(), good(), good(), good(), good()), api.ErrLimit},
		{"5 that may not be", slopes(make([]api.Slope, 5)...), api.ErrLimit},
		{"4 that may not be", slopes(make([]api.Slope, 4)...), api.ErrArg},
		{"the last one may not be", slopes(good(), good(), good(), slope(50, 30, 60, 0)), api.ErrArg},
		{"13 Takes", slopes(long), api.ErrLimit},
		{"13 Takes, then one that may not be", slopes(long, api.Slope{}), api.ErrLimit},
		{"13 Takes, behind one that may not be", slopes(api.Slope{}, long), api.ErrArg},
		{"none, 5 crafts", func(w *api.Works) { w.Slopes, w.Crafts = nil, make([]api.Craft, 5) }, api.ErrArg},
		{"5, Years -1", func(w *api.Works) { w.Slopes, w.Years = make([]api.Slope, 5), -1 }, api.ErrLimit},
		{"one that may not be, 5 crafts", func(w *api.Works) { w.Slopes[0].Size, w.Crafts = 0, make([]api.Craft, 5) }, api.ErrArg},
		{"13 Takes, a craft that may not be", func(w *api.Works) { w.Slopes[0], w.Crafts[0].Price = long, -1 }, api.ErrLimit},
	})
}

func TestCheckSlope(t *testing.T) {
	of := func(s api.Slope) func(w *api.Works) {
		return func(w *api.Works) { w.Slopes = []api.Slope{good(), s} }
	}
	checkAll(t, []checked{
		{"Full 0", of(slope(0, 0, 0, 2)), api.ErrArg},
		{"Full 1", of(slope(0, 0, 1, 2)), api.OK},
		{"Full 1000", of(slope(0, 0, 1000, 2)), api.OK},
		{"Full 1001", of(slope(0, 0, 1001, 2)), api.ErrArg},
		{"Full -1", of(slope(0, 0, -1, 2)), api.ErrArg},
		{"the least Full", of(slope(0, 0, math.MinInt, 2)), api.ErrArg},
		{"the greatest Full", of(slope(0, 0, math.MaxInt, 2)), api.ErrArg},
		{"Need -1", of(slope(50, -1, 60, 2)), api.ErrArg},
		{"Need 0", of(slope(50, 0, 60, 2)), api.OK},
		{"Need as Full", of(slope(50, 60, 60, 2)), api.OK},
		{"Need above Full", of(slope(50, 61, 60, 2)), api.ErrArg},
		{"Now -1", of(slope(-1, 30, 60, 2)), api.ErrArg},
		{"Now 0, below Need", of(slope(0, 30, 60, 2)), api.OK},
		{"Now as Full", of(slope(60, 30, 60, 2)), api.OK},
		{"Now above Full", of(slope(61, 30, 60, 2)), api.ErrArg},
		{"Size 0", of(slope(50, 30, 60, 0)), api.ErrArg},
		{"Size 1", of(slope(50, 30, 60, 1)), api.OK},
		{"Size 1000", of(slope(50, 30, 60, 1000)), api.OK},
		{"Size 1001", of(slope(50, 30, 60, 1001)), api.ErrArg},
		{"no Takes", of(slope(50, 30, 60, 2)), api.OK},
		{"12 Takes", of(slope(50, 30, 60, 2, make([]int, 12)...)), api.OK},
		{"13 Takes", of(slope(50, 30, 60, 2, make([]int, 13)...)), api.ErrLimit},
		{"13 Takes that may not be", of(slope(50, 30, 60, 2, slices.Repeat([]int{-1}, 13)...)), api.ErrLimit},
		{"13 Takes, Full 0", of(slope(0, 0, 0, 2, make([]int, 13)...)), api.ErrArg},
		{"13 Takes, Need 61", of(slope(50, 61, 60, 2, make([]int, 13)...)), api.ErrArg},
		{"13 Takes, Now 61", of(slope(61, 30, 60, 2, make([]int, 13)...)), api.ErrArg},
		{"13 Takes, Size 0", of(slope(50, 30, 60, 0, make([]int, 13)...)), api.ErrArg},
		{"takes 0 and 500, more than Full", of(slope(50, 30, 60, 2, 0, 500)), api.OK},
		{"takes -1", of(slope(50, 30, 60, 2, -1)), api.ErrArg},
		{"takes 501 the third time", of(slope(50, 30, 60, 2, 0, 500, 501)), api.ErrArg},
	})
}

func TestCheckCrafts(t *testing.T) {
	of := func(list ...api.Craft) func(w *api.Works) {
		return func(w *api.Works) { w.Crafts = list }
	}
	stripping := func(more, price int) api.Craft { return api.Craft{Add: more, Price: price, Strip: true} }
	checkAll(t, []checked{
		{"none", of(), api.OK},
		{"4", of(add(1, 2), strip(3), add(1, 2), strip(3)), api.OK},
		{"5", of(add(1, 2), strip(3), add(1, 2), strip(3), add(0, 0)), api.ErrLimit},
		{"5 that may not be", of(slices.Repeat(crafts(add(-1, 2)), 5)...), api.ErrLimit},
		{"Price -1", of(add(1, -1)), api.ErrArg},
		{"Price 0", of(add(1, 0), strip(0)), api.OK},
		{"Price 10000", of(add(1, 10000), strip(10000)), api.OK},
		{"Price 10001", of(add(1, 10001)), api.ErrArg},
		{"Price 10001 of a strip", of(strip(10001)), api.ErrArg},
		{"Add -1", of(add(-1, 2)), api.ErrArg},
		{"Add 0", of(add(0, 2)), api.OK},
		{"Add 1000", of(add(1000, 2)), api.OK},
		{"Add 1001", of(add(1001, 2)), api.ErrArg},
		{"Add 1 of a strip", of(stripping(1, 2)), api.ErrArg},
		{"Add -1 of a strip", of(stripping(-1, 2)), api.ErrArg},
		{"Add 1001 of a strip", of(stripping(1001, 2)), api.ErrArg},
		{"the last one may not be", of(add(1, 2), strip(3), add(1, 2), strip(math.MaxInt)), api.ErrArg},
		{"5, Years 41", func(w *api.Works) { w.Crafts, w.Years = make([]api.Craft, 5), 41 }, api.ErrLimit},
	})
}

func TestCheckNumbers(t *testing.T) {
	of := func(years, visit, hands int) func(w *api.Works) {
		return func(w *api.Works) { w.Years, w.Visit, w.Hands = years, visit, hands }
	}
	checkAll(t, []checked{
		{"Years -1", of(-1, 10, 1), api.ErrArg},
		{"Years 0", of(0, 10, 1), api.OK},
		{"Years 40", of(40, 10, 1), api.OK},
		{"Years 41", of(41, 10, 1), api.ErrArg},
		{"the least Years", of(math.MinInt, 10, 1), api.ErrArg},
		{"Visit -1", of(3, -1, 1), api.ErrArg},
		{"Visit 0", of(3, 0, 1), api.OK},
		{"Visit 1000000", of(3, 1000000, 1), api.OK},
		{"Visit 1000001", of(3, 1000001, 1), api.ErrArg},
		{"Hands -1", of(3, 10, -1), api.ErrArg},
		{"Hands 0", of(3, 10, 0), api.OK},
		{"Hands 4", of(3, 10, 4), api.OK},
		{"Hands 5", of(3, 10, 5), api.ErrArg},
		{"the greatest Hands", of(3, 10, math.MaxInt), api.ErrArg},
	})
}
