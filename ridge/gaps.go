package ridge

import (
	"iter"

	"thatch/api"
)

// gap is what is left of a ridge behind some pieces: its length, and the profile that it begins with.
type gap struct{ length, profile int }

func whole(r api.Ridge) gap { return gap{r.Length, r.Start} }

// closed is the gap that a row leaves that fits.
func closed(r api.Ridge) gap { return gap{0, r.End} }

func (g gap) takes(p api.Piece) bool { return p.Left == g.profile && p.Width <= g.length }

// behind is what a piece leaves of a gap.
func (g gap) behind(p api.Piece) gap { return gap{g.length - p.Width, p.Right} }

// next yields the numbers of the pieces that may come next, and what each of them leaves of the gap.
func (g gap) next(pieces []api.Piece) iter.Seq2[int, gap] {
	return func(yield func(int, gap) bool) {
		for number, p := range pieces {
			if g.takes(p) && !yield(number, g.behind(p)) {
				return
			}
		}
	}
}

// table has something for each gap, by its length and its profile.
type table[T any] [api.MaxRidge + 1][api.MaxProfile + 1]T

func (t *table[T]) at(g gap) *T { return &t[g.length][g.profile] }

// gapsOf returns all gaps that pieces can leave of a ridge, the longest ones first, the whole ridge among them.
func gapsOf(r api.Ridge) []gap {
	var list []gap
	var left table[bool]
	*left.at(whole(r)) = true
	for length := r.Length; length >= 0; length-- {
		for profile := range api.MaxProfile + 1 {
			g := gap{length, profile}
			if !*left.at(g) {
				continue
			}
			list = append(list, g)
			for _, behind := range g.next(r.Pieces) {
				*left.at(behind) = true
			}
		}
	}
	return list
}
