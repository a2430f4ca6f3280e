package mend

import "thatch/api"

// craft is what may be done to a slope in a year.
type craft interface {
	// mended returns how thick a slope is behind it.
	mended(thick, full int) int
	cost(size int) int
}

// rest is the craft that does nothing.
type rest struct{}

func (rest) mended(thick, _ int) int { return thick }

func (rest) cost(int) int { return 0 }

type adding struct{ more, price int }

func (c adding) mended(thick, full int) int { return min(full, thick+c.more) }

func (c adding) cost(size int) int { return c.price * size }

type stripping struct{ price int }

func (c stripping) mended(_, full int) int { return full }

func (c stripping) cost(size int) int { return c.price * size }

func craftOf(c api.Craft) craft {
	if c.Strip {
		return stripping{c.Price}
	}
	return adding{c.Add, c.Price}
}
