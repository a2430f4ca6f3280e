package ridge

import (
	"slices"

	"thatch/api"
	"thatch/fault"
)

func fits(r api.Ridge, row []int) bool {
	g := whole(r)
	for _, number := range row {
		if !isPiece(r, number) || !g.takes(r.Pieces[number]) {
			return false
		}
		g = g.behind(r.Pieces[number])
	}
	return g == closed(r)
}

func needs(r api.Ridge, row []int) []int {
	counts := make([]int, len(r.Pieces))
	for _, number := range row {
		counts[number]++
	}
	return counts
}

// rows is a ridge, and in how many ways each gap of it can be filled.
type rows struct {
	ridge api.Ridge
	ways  *table[int]
}

// rowsOf panics with the error of a ridge, or if too many rows fit it.
func rowsOf(r api.Ridge) rows {
	requireRidge(r)
	return rows{r, count(r)}
}

// count looks only at gaps that pieces can leave: with these pieces ahead, what fills such a gap is a row of the whole ridge, so that a gap with too many ways tells that the ridge has too many. Other gaps may have as many as they like.
func count(r api.Ridge) *table[int] {
	var ways table[int]
	*ways.at(closed(r)) = 1
	for _, g := range slices.Backward(gapsOf(r)) {
		for _, behind := range g.next(r.Pieces) {
			*ways.at(g) += *ways.at(behind)
		}
		fault.Unless(*ways.at(g) <= api.MaxWays, api.ErrLimit)
	}
	return &ways
}

func (w rows) all() int { return *w.ways.at(whole(w.ridge)) }

// nth returns the row with the number k, which there must be.
func (w rows) nth(k int) []int {
	var row []int
	for g := whole(w.ridge); g.length > 0; {
		for number, behind := range g.next(w.ridge.Pieces) {
			ways := *w.ways.at(behind)
			if k < ways {
				row = append(row, number)
				g = behind
				break
			}
			k -= ways
		}
	}
	return row
}

// rank returns the number of a row that fits.
func (w rows) rank(row []int) int {
	ahead := 0
	g := whole(w.ridge)
	for _, number := range row {
		for other, behind := range g.next(w.ridge.Pieces) {
			if other == number {
				g = behind
				break
			}
			ahead += *w.ways.at(behind)
		}
	}
	return ahead
}

// even counts even rows by their first halves, which tell the others. A half ends in the middle of the ridge, with any profile, or at a piece that is its own Mirror.
func (w rows) even() int {
	r := w.ridge
	if r.Start != r.End {
		return 0
	}
	sum := 0
	if r.Length%2 == 0 {
		for profile := range api.MaxProfile + 1 {
			sum += halves(r, r.Length/2, profile)
		}
	}
	for i, p := range r.Pieces {
		sides := r.Length - p.Width
		if p.Mirror == i && sides >= 0 && sides%2 == 0 {
			sum += halves(r, sides/2, p.Left)
		}
	}
	return sum
}

// halves counts the rows of a length that begin as the ridge does. Each of them is half of an even row, so they are no more than the rows of the ridge.
func halves(r api.Ridge, length, end int) int {
	r.Length, r.End = length, end
	return rows{r, count(r)}.all()
}
