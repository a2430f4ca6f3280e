package ridge_test

import (
	"math/rand"
	"slices"
	"strconv"
	"testing"

	"thatch/api"
	"thatch/ridge"
)

// Ridges for the tests, and what can be done with them.

func piece(name string, width, left, right, mirror int) api.Piece {
	return api.Piece{Name: name, Width: width, Left: left, Right: right, Mirror: mirror}
}

func of(length, start, end int, pieces ...api.Piece) api.Ridge {
	return api.Ridge{Length: length, Start: start, End: end, Pieces: pieces}
}

// example is the ridge of the document's examples.
func example() api.Ridge {
	return of(5, 0, 0, piece("one", 1, 0, 0, 0), piece("two", 2, 0, 0, 1), piece("up", 1, 0, 1, 3), piece("down", 1, 1, 0, 2))
}

const exampleText = "ridge 5 0 0\npiece one 1 0 0 one\npiece two 2 0 0 two\npiece up 1 0 1 down\npiece down 1 1 0 up\n"

// changed is the ridge of the examples with something else in it.
func changed(do func(r *api.Ridge)) api.Ridge {
	r := example()
	do(&r)
	return r
}

// plain has pieces of one width, each its own Mirror, between profiles 0.
func plain(length, count, width int) api.Ridge {
	r := of(length, 0, 0)
	for i := range count {
		r.Pieces = append(r.Pieces, piece("p"+strconv.Itoa(i), width, 0, 0, i))
	}
	return r
}

// full is a ridge that just as many rows fit as may: 10 fill a gap of 2, 9 of them with a pair.
func full() api.Ridge {
	r := of(30, 0, 0, piece("flat", 2, 0, 0, 0))
	for i := range 3 {
		up := 1 + 2*i
		r.Pieces = append(r.Pieces, piece("up"+strconv.Itoa(i), 1, 0, 1, up+1), piece("down"+strconv.Itoa(i), 1, 1, 0, up))
	}
	return r
}

// overfull is a ridge that one row more fits: a single piece.
func overfull() api.Ridge {
	r := full()
	r.Pieces = append(r.Pieces, piece("long", 30, 0, 0, len(r.Pieces)))
	return r
}

func copyRidge(r api.Ridge) api.Ridge {
	r.Pieces = slices.Clone(r.Pieces)
	return r
}

func sameRidge(a, b api.Ridge) bool {
	return a.Length == b.Length && a.Start == b.Start && a.End == b.End && slices.Equal(a.Pieces, b.Pieces)
}

// swapped is the ridge as it is seen from behind.
func swapped(r api.Ridge) api.Ridge {
	r.Start, r.End = r.End, r.Start
	return r
}

func image(r api.Ridge, row []int) []int {
	var list []int
	for _, number := range slices.Backward(row) {
		list = append(list, r.Pieces[number].Mirror)
	}
	return list
}

// between is a random number from low to high.
func between(rng *rand.Rand, low, high int) int { return low + rng.Intn(high-low+1) }

// size is how great a random ridge is at most.
type size struct{ length, width, profiles, pieces int }

var (
	small = size{7, 3, 3, 5}
	wide  = size{5, 2, 2, 10}
	long  = size{60, 9, 4, 10}
	dense = size{300, 4, 2, 10}
	whole = size{api.MaxRidge, 400, 10, 10}
)

// randomRidge is a ridge that may be. Its pieces are their own Mirrors, or pairs, in any order.
func randomRidge(rng *rand.Rand, s size) api.Ridge {
	profiles := between(rng, 1, s.profiles)
	r := of(between(rng, 0, s.length), rng.Intn(profiles), rng.Intn(profiles))
	if rng.Intn(2) == 0 {
		r.End = r.Start
	}
	order := rng.Perm(between(rng, 0, s.pieces))
	r.Pieces = make([]api.Piece, len(order))
	for len(order) > 0 {
		i, width, left := order[0], between(rng, 1, s.width), rng.Intn(profiles)
		if len(order) == 1 || rng.Intn(2) == 0 {
			r.Pieces[i] = piece("p"+strconv.Itoa(i), width, left, left, i)
			order = order[1:]
			continue
		}
		k, right := order[1], rng.Intn(profiles)
		r.Pieces[i] = piece("p"+strconv.Itoa(i), width, left, right, k)
		r.Pieces[k] = piece("p"+strconv.Itoa(k), width, right, left, i)
		order = order[2:]
	}
	return r
}

func askWays(t *testing.T, r api.Ridge) int {
	t.Helper()
	n, e := ridge.Ways(r)
	if e != api.OK {
		t.Fatal(r, e)
	}
	return n
}

func askNth(t *testing.T, r api.Ridge, k int) []int {
	t.Helper()
	row, e := ridge.Nth(r, k)
	if e != api.OK {
		t.Fatal(r, k, e)
	}
	return row
}

// askFits tells whether a row fits, and makes sure that Needs and Rank agree.
func askFits(t *testing.T, r api.Ridge, row []int) bool {
	t.Helper()
	ok, e := ridge.Fits(r, row)
	want := api.OK
	if !ok {
		want = api.ErrState
	}
	_, needsError := ridge.Needs(r, row)
	_, rankError := ridge.Rank(r, row)
	if e != api.OK || needsError != want || rankError != want {
		t.Fatal(r, row, ok, e, needsError, rankError)
	}
	return ok
}
