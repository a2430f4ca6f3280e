package straw_test

import (
	"math"
	"math/rand"
	"slices"
	"testing"

	"thatch/api"
	"thatch/straw"
)

// P2.4 (Choose).

type chosen struct {
	n     api.Need
	want  []int
	cost  int
	found bool
	e     api.Errno
}

func chooseAll(t *testing.T, f api.Farm, list []chosen) {
	t.Helper()
	for _, c := range list {
		if l, cost, found, e := straw.Choose(f, c.n); !slices.Equal(l, c.want) || cost != c.cost || found != c.found || e != c.e {
			t.Error(c, l, cost, found, e)
		}
	}
}

func TestChoose(t *testing.T) {
	chooseAll(t, farm(), []chosen{
		{api.Need{Reed: 30, Straw: 10}, []int{0, 1}, 70, true, api.OK},
		{api.Need{Reed: 40, Straw: 10}, []int{0, 1}, 70, true, api.OK},
		{api.Need{Reed: 41}, nil, 0, false, api.OK},
		{api.Need{Straw: 11}, nil, 0, false, api.OK},
		{api.Need{Heather: 1}, nil, 0, false, api.OK},
		{api.Need{Reed: 1}, []int{0}, 50, true, api.OK},
		{api.Need{Straw: 1}, []int{1}, 20, true, api.OK},
		{api.Need{}, nil, 0, true, api.OK},
		{api.Need{Reed: 100000, Straw: 100000, Heather: 100000}, nil, 0, false, api.OK},
		{api.Need{Reed: -1}, nil, 0, false, api.ErrArg},
		{api.Need{Straw: -1}, nil, 0, false, api.ErrArg},
		{api.Need{Heather: -1}, nil, 0, false, api.ErrArg},
		{api.Need{Reed: 100001}, nil, 0, false, api.ErrArg},
		{api.Need{Straw: 100001}, nil, 0, false, api.ErrArg},
		{api.Need{Heather: 100001}, nil, 0, false, api.ErrArg},
		{api.Need{Heather: math.MaxInt}, nil, 0, false, api.ErrArg},
	})
	chooseAll(t, api.Farm{}, []chosen{{api.Need{}, nil, 0, true, api.OK}, {api.Need{Reed: 1}, nil, 0, false, api.OK}})
}

// reedFields is a farm of fields of reed with costs and loads, by twos.
func reedFields(n ...int) api.Farm {
	var f api.Farm
	for i := 0; i < len(n); i += 2 {
		f.Plots = append(f.Plots, api.Plot{Name: string(rune('a' + i/2)), Crop: api.CrReed, Size: 1, Yield: span(n[i+1], 1000), Rest: 1, Cost: n[i]})
	}
	return f
}

// Of several choices of one cost, the one with the fewest fields, then the least list.
func TestChooseWhich(t *testing.T) {
	for _, c := range []struct {
		f    api.Farm
		need int
		want []int
		cost int
	}{
		{reedFields(1, 5, 1, 5, 2, 10), 10, []int{2}, 2},
		{reedFields(1, 5, 1, 5, 3, 10), 10, []int{0, 1}, 2},
		{reedFields(2, 9, 2, 10, 2, 10), 10, []int{1}, 2},
		{reedFields(1, 5, 1, 5, 1, 5, 1, 5), 10, []int{0, 1}, 2},
		{reedFields(3, 1, 1, 5, 2, 5, 2, 5), 10, []int{1, 2}, 3},
		{reedFields(0, 5, 0, 5, 0, 10), 10, []int{2}, 0},
		{reedFields(0, 1, 0, 1), 0, nil, 0},
		{reedFields(1, 6, 2, 4, 1, 4, 2, 6), 10, []int{0, 2}, 2},
		{reedFields(2, 4, 1, 6, 2, 6, 1, 4), 10, []int{1, 3}, 2},
		{reedFields(1, 3, 2, 7, 1, 7, 2, 3), 10, []int{0, 2}, 2},
		{reedFields(1000000, 1000, 1000000, 1000, 1000000, 1000), 3000, []int{0, 1, 2}, 3000000},
		{reedFields(5, 10, 4, 9), 10, []int{0}, 5},
	} {
		chooseAll(t, c.f, []chosen{{api.Need{Reed: c.need}, c.want, c.cost, true, api.OK}})
	}
}

// choiceOf is the set of fields that the bits of a number stand for: whether it surely gives enough, and its cost.
func choiceOf(f api.Farm, n api.Need, set int) (list []int, cost int, sure bool) {
	left := map[api.Crop]int{api.CrReed: n.Reed, api.CrStraw: n.Straw, api.CrHeather: n.Heather}
	for i, p := range f.Plots {
		if set>>i&1 == 1 {
			list = append(list, i)
			cost += p.Cost
			left[p.Crop] -= p.Size * p.Yield.Low
		}
	}
	return list, cost, left[api.CrReed] <= 0 && left[api.CrStraw] <= 0 && left[api.CrHeather] <= 0
}

func randomNeed(rng *rand.Rand) api.Need {
	some := func() int { return max(0, rng.Intn(60)-30) }
	return api.Need{Reed: some(), Straw: some(), Heather: some()}
}

func TestChooseOfAll(t *testing.T) {
	rng := rand.New(rand.NewSource(24))
	count := 0
	for range 1500 {
		f, n := randomFarm(rng, 10), randomNeed(rng)
		c := chosen{n: n}
		for set := range 1 << len(f.Plots) {
			l, cost, sure := choiceOf(f, n, set)
			if !sure || c.found && (cost > c.cost || cost == c.cost && (len(l) > len(c.want) || len(l) == len(c.want) && slices.Compare(l, c.want) > 0)) {
				continue
			}
			c.want, c.cost, c.found = l, cost, true
		}
		if c.found {
			count++
		}
		chooseAll(t, f, []chosen{c})
	}
	if count < 100 || count > 1400 {
		t.Error(count)
	}
}
