package wear_test

import (
	"math"
	"math/big"
	"math/rand"
	"testing"

	"thatch/api"
	"thatch/wear"
)

// P7.4 (Rate).

func TestRate(t *testing.T) {
	for _, c := range []struct {
		take                   api.Span
		rise, run, shade, moss int
		want                   api.Span
	}{
		{span(100, 200), 1, 2, 10, 50, span(165, 495)},
		{span(100, 200), 7, 7, 0, 0, span(100, 200)},
		{span(100, 200), 7, 7, 100, 0, span(200, 400)},
		{span(100, 200), 7, 7, 0, 100, span(100, 400)},
		{span(100, 200), 1, 100, 0, 0, span(5050, 10100)},
		{span(100, 200), 100, 1, 0, 0, span(50, 101)},
		{span(1, 1), 3, 1, 0, 0, span(0, 1)},
		{span(3, 3), 2, 1, 0, 0, span(2, 3)},
		{span(4, 4), 2, 1, 0, 0, span(3, 3)},
		{span(0, 0), 1, 100, 100, 100, span(0, 0)},
		{span(0, 1), 100, 1, 0, 0, span(0, 1)},
		{span(10000, 10000), 1, 100, 100, 100, span(1010000, 2020000)},
		{span(0, 10000), 100, 100, 1, 1, span(0, 10201)},
		{span(99, 99), 1, 1, 1, 1, span(99, 101)},
		{span(7, 7), 1, 46, 39, 71, span(228, 392)}, // 7820001 / 20000
	} {
		if b, e := wear.Rate(api.Climate{Take: c.take}, c.rise, c.run, c.shade, c.moss); e != api.OK || b != c.want {
			t.Error(c, b, e)
		}
	}
}

func TestRateErrors(t *testing.T) {
	for _, c := range []struct {
		take                   api.Span
		rise, run, shade, moss int
	}{
		{span(-1, 1), 1, 1, 0, 0},
		{span(5, 4), 1, 1, 0, 0},
		{span(0, 10001), 1, 1, 0, 0},
		{span(math.MinInt, math.MaxInt), 1, 1, 0, 0},
		{span(0, 1), 0, 1, 0, 0},
		{span(0, 1), 101, 1, 0, 0},
		{span(0, 1), -1, 1, 0, 0},
		{span(0, 1), math.MaxInt, 1, 0, 0},
		{span(0, 1), 1, 0, 0, 0},
		{span(0, 1), 1, 101, 0, 0},
		{span(0, 1), 1, math.MinInt, 0, 0},
		{span(0, 1), 1, 1, -1, 0},
		{span(0, 1), 1, 1, 101, 0},
		{span(0, 1), 1, 1, math.MaxInt, 0},
		{span(0, 1), 1, 1, 0, -1},
		{span(0, 1), 1, 1, 0, 101},
		{span(0, 1), 1, 1, 0, math.MinInt},
	} {
		if b, e := wear.Rate(api.Climate{Take: c.take}, c.rise, c.run, c.shade, c.moss); e != api.ErrArg || b != (api.Span{}) {
			t.Error(c, b, e)
		}
	}
}

// taken returns what is taken of a face, as a quotient: take times each of the others, but the last one, which it is divided by.
func taken(list ...int) *big.Rat {
	last := len(list) - 1
	product := big.NewRat(1, int64(list[last]))
	for _, n := range list[:last] {
		product.Mul(product, big.NewRat(int64(n), 1))
	}
	return product
}

// The whole numbers that are told are next to what is taken: the least one below it, and the greatest one above.
func TestRateRandom(t *testing.T) {
	rng := rand.New(rand.NewSource(107))
	one, exact := big.NewRat(1, 1), 0
	for range 20000 {
		take := randomSpan(rng, 0, []int{20, 10000}[rng.Intn(2)])
		most := []int{8, 100}[rng.Intn(2)]
		rise, run := between(rng, 1, most), between(rng, 1, most)
		shade, moss := 10*between(rng, 0, 10), between(rng, 0, 100)
		b, e := wear.Rate(api.Climate{Take: take}, rise, run, shade, moss)
		if e != api.OK {
			t.Fatal(take, rise, run, shade, moss, e)
		}
		low := taken(take.Low, 100+shade, rise+run, 200*rise)
		high := taken(take.High, 100+shade, 100+moss, rise+run, 20000*rise)
		low.Sub(low, big.NewRat(int64(b.Low), 1))
		high.Sub(big.NewRat(int64(b.High), 1), high)
		if low.Sign() < 0 || low.Cmp(one) >= 0 || high.Sign() < 0 || high.Cmp(one) >= 0 {
			t.Fatal(take, rise, run, shade, moss, b, low, high)
		}
		if low.Sign() == 0 && high.Sign() == 0 {
			exact++
		}
	}
	if exact < 100 {
		t.Error(exact)
	}
}
