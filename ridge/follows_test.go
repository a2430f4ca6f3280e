package ridge_test

import (
	"math/rand"
	"slices"
	"testing"

	"thatch/api"
	"thatch/ridge"
)

// P6.7 (what follows).

// countedRidge is a random ridge that may have many rows, but not more than may be, and how many it has. At least one fits.
func countedRidge(t *testing.T, rng *rand.Rand) (api.Ridge, int) {
	t.Helper()
	for {
		r := randomRidge(rng, []size{small, long, dense, whole}[rng.Intn(4)])
		n, e := ridge.Ways(r)
		if e == api.OK && n > 0 {
			return r, n
		}
		if e != api.OK && e != api.ErrLimit {
			t.Fatal(r, e)
		}
	}
}

func TestNthAndRankUndoEachOther(t *testing.T) {
	rng := rand.New(rand.NewSource(86))
	count := 0
	for range 400 {
		r, n := countedRidge(t, rng)
		for range 4 {
			k := rng.Intn(n)
			row := askNth(t, r, k)
			if !isRow(r, row) || !askFits(t, r, row) {
				t.Fatal(r, k, row)
			}
			if again, e := ridge.Rank(r, row); e != api.OK || again != k {
				t.Fatal(r, k, row, again, e)
			}
		}
		if n > 1000000 {
			count++
		}
	}
	if count < 50 {
		t.Error(count)
	}
}

func TestGreaterNumbersAreBehind(t *testing.T) {
	rng := rand.New(rand.NewSource(87))
	neighbours := 0
	for range 300 {
		r, n := countedRidge(t, rng)
		list := []int{0, n - 1, rng.Intn(n), rng.Intn(n)}
		list = append(list, max(0, list[2]-1), min(n-1, list[3]+1))
		slices.Sort(list)
		list = slices.Compact(list)
		for i, k := range list[1:] {
			a, b := askNth(t, r, list[i]), askNth(t, r, k)
			if slices.Compare(a, b) >= 0 || slices.Equal(a, b[:min(len(a), len(b))]) {
				t.Fatal(r, list[i], k, a, b)
			}
			if list[i]+1 == k {
				neighbours++
			}
		}
	}
	if neighbours < 100 {
		t.Error(neighbours)
	}
}

func TestImages(t *testing.T) {
	rng := rand.New(rand.NewSource(88))
	even := 0
	for range 400 {
		r, n := countedRidge(t, rng)
		other := swapped(r)
		if m := askWays(t, other); m != n {
			t.Fatal(r, n, m)
		}
		a, _ := ridge.Even(r)
		b, _ := ridge.Even(other)
		if a != b || a > n {
			t.Fatal(r, a, b, n)
		}
		for range 3 {
			row := askNth(t, r, rng.Intn(n))
			list := image(r, row)
			if !askFits(t, other, list) || !slices.Equal(image(other, list), row) {
				t.Fatal(r, row, list)
			}
			if slices.Equal(row, list) {
				even++
			}
		}
	}
	if even < 50 {
		t.Error(even)
	}
}

// A ridge in two parts, with any profile between them, is filled by one row of each; rows of the whole ridge that have no joint there are counted by the piece that lies across it.
func TestRidgeInTwoParts(t *testing.T) {
	rng := rand.New(rand.NewSource(89))
	across := 0
	for range 150 {
		r, n := countedRidge(t, rng)
		ways := func(length, start, end int) int {
			return askWays(t, of(length, start, end, r.Pieces...))
		}
		if n > 1000 || r.Length > 300 {
			continue
		}
		at, sum := between(rng, 0, r.Length), 0
		for profile := range 10 {
			first, e := ridge.Ways(of(at, r.Start, profile, r.Pieces...))
			second, f := ridge.Ways(of(r.Length-at, profile, r.End, r.Pieces...))
			// There may be too many rows of a part only if none fits the other one.
			if e == api.OK && f == api.OK {
				sum += first * second
			}
		}
		for _, p := range r.Pieces {
			for from := max(0, at-p.Width+1); from < at && from+p.Width <= r.Length; from++ {
				if first := ways(from, r.Start, p.Left); first > 0 {
					more := first * ways(r.Length-from-p.Width, p.Right, r.End)
					sum += more
					across += min(more, 1)
				}
			}
		}
		if sum != n {
			t.Fatal(r, at, sum, n)
		}
	}
	if across < 50 {
		t.Error(across)
	}
}

func TestNoBoundAboveAPlan(t *testing.T) {
	rng := rand.New(rand.NewSource(90))
	sharp, close := 0, 0
	for range 5000 {
		r := someRods(rng)
		n := askPlan(t, r)
		for range 5 {
			weights := randomWeights(rng, r)
			if b, e := ridge.Bound(r, weights); e != api.OK || b > n {
				t.Fatal(r, weights, b, n, e)
			}
		}
		b, weights, e := ridge.Lower(r)
		if e != api.OK || b > n {
			t.Fatal(r, b, n, e)
		}
		if again, e := ridge.Bound(r, weights); e != api.OK || again != b {
			t.Fatal(r, weights, b, again, e)
		}
		if b == n {
			sharp++
		} else if n > 0 && b > 0 {
			close++
		}
	}
	if sharp < 300 || close < 50 {
		t.Error(sharp, close)
	}
}

func TestMoreCutsOrShorterRods(t *testing.T) {
	rng := rand.New(rand.NewSource(91))
	longer, shorter := 0, 0
	for range 2000 {
		r := someRods(rng)
		n := askPlan(t, r)
		more := copyRods(r)
		if len(more.Cuts) < api.MaxCuts {
			more.Cuts = append(more.Cuts, cut(between(rng, 1, r.Stock), 0))
		}
		more.Cuts[rng.Intn(len(more.Cuts))].Many++
		if ridge.CheckRods(more) == api.OK {
			m := askPlan(t, more)
			if m < n || m > n+1 {
				t.Fatal(r, more, n, m)
			}
			longer += m - n
		}
		less := copyRods(r)
		less.Stock = between(rng, max(1, r.Stock*3/4), r.Stock)
		if ridge.CheckRods(less) == api.OK {
			m := askPlan(t, less)
			if m < n {
				t.Fatal(r, less, n, m)
			}
			shorter += min(1, m-n)
		}
	}
	if longer < 100 || shorter < 100 {
		t.Error(longer, shorter)
	}
}

// What a saw takes can as well be of the cuts and of the rods, and all lengths can be any number of times as great.
func TestRodsOfOtherMeasures(t *testing.T) {
	rng := rand.New(rand.NewSource(92))
	for range 1000 {
		r := randomRods(rng, 500, 10, 60)
		n := askPlan(t, r)
		bound, weights, _ := ridge.Lower(r)
		times := between(rng, 2, 50)
		without, great := copyRods(r), copyRods(r)
		without.Stock, without.Kerf = r.Stock+r.Kerf, 0
		great.Stock, great.Kerf = r.Stock*times, r.Kerf*times
		for i, c := range r.Cuts {
			without.Cuts[i].Length = c.Length + r.Kerf
			great.Cuts[i].Length = c.Length * times
		}
		for _, other := range []api.Rods{without, great} {
			b, w, e := ridge.Lower(other)
			if m := askPlan(t, other); m != n || b != bound || !slices.Equal(w, weights) || e != api.OK {
				t.Fatal(r, other, n, m, bound, b, weights, w)
			}
		}
	}
}
