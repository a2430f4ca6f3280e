package ridge_test

import (
	"math"
	"math/rand"
	"slices"
	"testing"

	"thatch/api"
	"thatch/ridge"
)

// P6.3 (Nth, Rank).

func TestNth(t *testing.T) {
	r := example()
	for k, want := range map[int][]int{
		0: {0, 0, 0, 0, 0}, 1: {0, 0, 0, 1}, 2: {0, 0, 0, 2, 3}, 3: {0, 0, 1, 0}, 10: {0, 2, 3, 2, 3},
		11: {1, 0, 0, 0}, 14: {1, 1, 0}, 15: {1, 2, 3, 0}, 16: {2, 3, 0, 0, 0}, 20: {2, 3, 2, 3, 0},
	} {
		if row, e := ridge.Nth(r, k); e != api.OK || !slices.Equal(row, want) {
			t.Error(k, row, e)
		}
		if n, e := ridge.Rank(r, want); e != api.OK || n != k {
			t.Error(want, n, e)
		}
	}
	for _, k := range []int{-1, 21, 22, math.MinInt, math.MaxInt} {
		if row, e := ridge.Nth(r, k); e != api.ErrArg || row != nil {
			t.Error(k, row, e)
		}
	}
	for _, row := range [][]int{nil, {0, 0}, {2, 1, 3}, {0, 0, 0, 0, 0, 0}, {0, 0, 0, 0, 2}, {-1}, {4, 0, 1, 1}, {0, 1, 1, 4}} {
		if n, e := ridge.Rank(r, row); e != api.ErrState || n != 0 {
			t.Error(row, n, e)
		}
	}
}

func TestNthOfFew(t *testing.T) {
	for _, c := range []struct {
		r   api.Ridge
		row []int
	}{
		{api.Ridge{}, nil},
		{of(0, 9, 9), nil},
		{plain(2000, 1, 1), make([]int, 2000)},
		{plain(2000, 1, 2000), []int{0}},
	} {
		if row := askNth(t, c.r, 0); !slices.Equal(row, c.row) {
			t.Error(c.r, row)
		}
		if row, e := ridge.Nth(c.r, 1); e != api.ErrArg || row != nil {
			t.Error(c.r, row, e)
		}
		if n, e := ridge.Rank(c.r, c.row); e != api.OK || n != 0 {
			t.Error(c.r, n, e)
		}
	}
	for _, r := range []api.Ridge{of(0, 0, 1), of(1, 0, 0), plain(3, 2, 2)} {
		if row, e := ridge.Nth(r, 0); e != api.ErrArg || row != nil {
			t.Error(r, row, e)
		}
		if n, e := ridge.Rank(r, nil); e != api.ErrState || n != 0 {
			t.Error(r, n, e)
		}
	}
}

func TestNthRandom(t *testing.T) {
	rng := rand.New(rand.NewSource(76))
	count := 0
	for range 1500 {
		r := randomRidge(rng, small)
		rows := allRows(r)
		if len(rows) > 200 {
			continue
		}
		for k, row := range rows {
			if got := askNth(t, r, k); !slices.Equal(got, row) {
				t.Fatal(r, k, got, row)
			}
			if n, e := ridge.Rank(r, row); e != api.OK || n != k {
				t.Fatal(r, row, n, k, e)
			}
			count++
		}
		if row, e := ridge.Nth(r, len(rows)); e != api.ErrArg || row != nil {
			t.Fatal(r, row, e)
		}
	}
	if count < 5000 {
		t.Error(count)
	}
}

// The last row of very many is told, too.
func TestNthOfVeryMany(t *testing.T) {
	r := plain(15, 10, 1)
	for _, c := range []struct {
		k   int
		row []int
	}{
		{0, make([]int, 15)},
		{123456789012345, []int{1, 2, 3, 4, 5, 6, 7, 8, 9, 0, 1, 2, 3, 4, 5}},
		{api.MaxWays - 1, slices.Repeat([]int{9}, 15)},
	} {
		if row := askNth(t, r, c.k); !slices.Equal(row, c.row) {
			t.Error(c.k, row)
		}
		if n, e := ridge.Rank(r, c.row); e != api.OK || n != c.k {
			t.Error(c.row, n, e)
		}
	}
	if row, e := ridge.Nth(r, api.MaxWays); e != api.ErrArg || row != nil {
		t.Error(row, e)
	}
	if row, e := ridge.Nth(overfull(), 0); e != api.ErrLimit || row != nil {
		t.Error(row, e)
	}
	if n, e := ridge.Rank(overfull(), make([]int, 15)); e != api.ErrLimit || n != 0 {
		t.Error(n, e)
	}
}
