package ridge_test

import (
	"math/big"
	"math/rand"
	"slices"
	"testing"

	"thatch/api"
	"thatch/ridge"
)

// P6.2 (Ways, Even).

func TestWays(t *testing.T) {
	with := func(length, start, end int) api.Ridge {
		return of(length, start, end, example().Pieces...)
	}
	for _, c := range []struct {
		name       string
		r          api.Ridge
		ways, even int
	}{
		{"the example", example(), 21, 3},
		{"length 0", with(0, 0, 0), 1, 1},
		{"length 1", with(1, 0, 0), 1, 1},
		{"length 2", with(2, 0, 0), 3, 3},
		{"length 3", with(3, 0, 0), 5, 1},
		{"length 4", with(4, 0, 0), 11, 5},
		{"an end of 1", with(5, 0, 1), 11, 0},
		{"a start of 1", with(5, 1, 0), 11, 0},
		{"both of 1", with(5, 1, 1), 5, 1},
		{"both of 1, length 2", with(2, 1, 1), 1, 1},
		{"both of 1, length 0", with(0, 1, 1), 1, 1},
		{"an end of 1, length 0", with(0, 0, 1), 0, 0},
		{"both of 2", with(5, 2, 2), 0, 0},
		{"nothing", api.Ridge{}, 1, 1},
		{"no pieces", of(5, 0, 0), 0, 0},
		{"a piece too wide", plain(5, 1, 6), 0, 0},
		{"a piece as wide", plain(5, 1, 5), 1, 1},
		{"three pieces as wide", plain(5, 3, 5), 3, 3},
		{"a pair as wide", of(5, 0, 0, piece("a", 5, 0, 0, 1), piece("b", 5, 0, 0, 0)), 2, 0},
		{"two of a pair", of(10, 0, 0, piece("a", 5, 0, 0, 1), piece("b", 5, 0, 0, 0)), 4, 2},
		{"the longest", plain(2000, 1, 1), 1, 1},
		{"the longest, of one", plain(2000, 7, 2000), 7, 7},
		{"the middle of other profiles", of(4, 0, 0, piece("a", 1, 0, 7, 1), piece("b", 1, 7, 0, 0), piece("c", 2, 7, 7, 2), piece("d", 4, 7, 7, 3)), 2, 2},
		{"the greatest profile at the ends", of(6, 9, 9, piece("a", 3, 9, 8, 1), piece("b", 3, 8, 9, 0)), 1, 1},
		{"the greatest profile in the middle", of(6, 8, 8, piece("a", 3, 8, 9, 1), piece("b", 3, 9, 8, 0)), 1, 1},
	} {
		n, e := ridge.Ways(c.r)
		m, f := ridge.Even(c.r)
		if n != c.ways || m != c.even || e != api.OK || f != api.OK {
			t.Errorf("%s: %d ways, %d even, errors %d %d", c.name, n, m, e, f)
		}
	}
}

func TestWaysRandom(t *testing.T) {
	rng := rand.New(rand.NewSource(73))
	many, even := 0, 0
	for i := range 4000 {
		r := randomRidge(rng, []size{small, wide}[i%8/7])
		rows := allRows(r)
		own := 0
		for _, row := range rows {
			if slices.Equal(row, image(r, row)) {
				own++
			}
		}
		if n := askWays(t, r); n != len(rows) {
			t.Fatal(r, n, len(rows))
		}
		if n, e := ridge.Even(r); e != api.OK || n != own {
			t.Fatal(r, n, own, e)
		}
		if len(rows) > 10 {
			many++
		}
		if own > 3 {
			even++
		}
	}
	if many < 200 || even < 100 {
		t.Error(many, even)
	}
}

// Long ridges are held against what is counted from the other end, with numbers of any size.
func TestWaysOfLongRidges(t *testing.T) {
	rng := rand.New(rand.NewSource(74))
	limits, some, zero := 0, 0, 0
	for i := range 1500 {
		r := randomRidge(rng, []size{long, whole, dense}[i%3])
		want := begun(r)[r.Length][r.End]
		n, e := ridge.Ways(r)
		_, evenError := ridge.Even(r)
		if evenError != e {
			t.Fatal(r, e, evenError)
		}
		if want.Cmp(big.NewInt(api.MaxWays)) > 0 {
			limits++
			if n != 0 || e != api.ErrLimit {
				t.Fatal(r, n, e)
			}
			continue
		}
		if e != api.OK || want.Cmp(big.NewInt(int64(n))) != 0 {
			t.Fatal(r, n, e, want)
		}
		if n == 0 {
			zero++
		} else if n > 1 {
			some++
		}
	}
	if limits < 100 || some < 300 || zero < 100 {
		t.Error(limits, some, zero)
	}
}

// evenOf counts even rows by their first halves.
func evenOf(r api.Ridge) *big.Int {
	ways, sum := begun(r), new(big.Int)
	if r.Start != r.End {
		return sum
	}
	for length := range r.Length/2 + 1 {
		for profile, n := range ways[length] {
			if 2*length == r.Length {
				sum.Add(sum, n)
			}
			for i, p := range r.Pieces {
				if p.Left == profile && p.Mirror == i && p.Width == r.Length-2*length {
					sum.Add(sum, n)
				}
			}
		}
	}
	return sum
}

func TestEvenOfLongRidges(t *testing.T) {
	rng := rand.New(rand.NewSource(75))
	many := 0
	for range 600 {
		r := randomRidge(rng, long)
		n, e := ridge.Even(r)
		if e == api.ErrLimit {
			continue
		}
		if e != api.OK || evenOf(r).Cmp(big.NewInt(int64(n))) != 0 {
			t.Fatal(r, n, e)
		}
		if n > 100 {
			many++
		}
	}
	if many < 20 {
		t.Error(many)
	}
}

func TestWaysLimit(t *testing.T) {
	for _, c := range []struct {
		name string
		r    api.Ridge
		ways int
		want api.Errno
	}{
		{"MaxWays", full(), api.MaxWays, api.OK},
		{"MaxWays, of one width", plain(15, 10, 1), api.MaxWays, api.OK},
		{"one more", overfull(), 0, api.ErrLimit},
		{"ten times as many", plain(16, 10, 1), 0, api.ErrLimit},
		{"far more", plain(2000, 10, 1), 0, api.ErrLimit},
		{"far more, that end otherwise", of(2000, 0, 1, plain(0, 10, 1).Pieces...), 0, api.OK},
	} {
		n, e := ridge.Ways(c.r)
		if n != c.ways || e != c.want {
			t.Errorf("%s: %d %d", c.name, n, e)
		}
		row, nthError := ridge.Nth(c.r, -1)
		rank, rankError := ridge.Rank(c.r, nil)
		even, evenError := ridge.Even(c.r)
		wantNth, wantRank := api.ErrArg, api.ErrState
		if c.want == api.ErrLimit {
			wantNth, wantRank = api.ErrLimit, api.ErrLimit
		}
		if nthError != wantNth || len(row) != 0 || rankError != wantRank || rank != 0 || evenError != c.want || even != 0 && e != api.OK {
			t.Errorf("%s: %v %d, %d %d, %d %d", c.name, row, nthError, rank, rankError, even, evenError)
		}
	}
	if n, e := ridge.Even(plain(15, 10, 1)); n != 100000000 || e != api.OK {
		t.Error(n, e)
	}
	// In the middle there is the side of a pair, with 3 of them to choose from, or the piece that is no pair.
	if n, e := ridge.Even(full()); n != 40000000 || e != api.OK {
		t.Error(n, e)
	}
}

// What cannot be a part of a row that fits is not counted, however much it is.
func TestWaysOfOtherGaps(t *testing.T) {
	odd := plain(1001, 9, 2)
	odd.Pieces = append(odd.Pieces, piece("long", 1001, 0, 0, 9))
	apart := of(2000, 0, 0, piece("long", 2000, 0, 0, 0))
	for i := range 9 {
		apart.Pieces = append(apart.Pieces, piece("z"+string(rune('a'+i)), 1, 1, 1, i+1))
	}
	wide := plain(2000, 9, 1)
	wide.Pieces = append(wide.Pieces, piece("long", 2000, 1, 1, 9))
	wide.Start, wide.End = 1, 1
	quarter := plain(1998, 9, 4)
	quarter.Pieces = append(quarter.Pieces, piece("mid", 1998, 0, 0, 9))
	for _, c := range []struct {
		name       string
		r          api.Ridge
		ways, even int
	}{
		{"pieces of 2 in an odd ridge", plain(1999, 10, 2), 0, 0},
		{"pieces of 2, and one that fills an odd ridge", odd, 1, 1},
		{"pieces with a profile that is never come to", apart, 1, 1},
		{"pieces with another profile than the ends", wide, 1, 1},
		{"no way to the end", of(400, 0, 1, plain(0, 10, 2).Pieces...), 0, 0},
		{"a ridge in which not even half can be filled", quarter, 1, 1},
	} {
		n, e := ridge.Ways(c.r)
		m, f := ridge.Even(c.r)
		if n != c.ways || m != c.even || e != api.OK || f != api.OK {
			t.Errorf("%s: %d ways, %d even, errors %d %d", c.name, n, m, e, f)
		}
		if row, e := ridge.Nth(c.r, c.ways); e != api.ErrArg || row != nil {
			t.Errorf("%s: %v %d", c.name, row, e)
		}
		if c.ways != 1 {
			continue
		}
		row := askNth(t, c.r, 0)
		if k, e := ridge.Rank(c.r, row); len(row) != 1 || k != 0 || e != api.OK {
			t.Errorf("%s: %v %d %d", c.name, row, k, e)
		}
	}
}
