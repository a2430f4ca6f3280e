package waiting_test

import (
	"cmp"
	"math/rand"
	"slices"
	"strings"
	"testing"

	"thatch/waiting"
)

func TestLeast(t *testing.T) {
	rng := rand.New(rand.NewSource(148))
	for count := range 60 {
		h := waiting.NewHeap(cmp.Compare[int])
		var want, got []int
		for range count {
			x := rng.Intn(30) - 15
			h.Push(x)
			want = append(want, x)
		}
		slices.Sort(want)
		for x := range h.Least {
			got = append(got, x)
		}
		if !slices.Equal(got, want) {
			t.Fatal(got, want)
		}
	}
}

func TestPushInBetween(t *testing.T) {
	rng := rand.New(rand.NewSource(149))
	for range 200 {
		h := waiting.NewHeap(cmp.Compare[int])
		var there []int
		push := func(x int) {
			h.Push(x)
			there = append(there, x)
		}
		push(0)
		more := 40
		for x := range h.Least {
			slices.Sort(there)
			if x != there[0] {
				t.Fatal(x, there)
			}
			there = there[1:]
			for range min(more, rng.Intn(4)) {
				push(rng.Intn(50))
				more--
			}
		}
		if len(there) > 0 {
			t.Fatal(there)
		}
	}
}

// What is not taken out waits on.
func TestLeastStop(t *testing.T) {
	h := waiting.NewHeap(func(a, b string) int { return strings.Compare(b, a) })
	for _, x := range []string{"b", "d", "a", "c"} {
		h.Push(x)
	}
	for _, want := range []string{"d", "c", "b", "a"} {
		for x := range h.Least {
			if x != want {
				t.Error(x, want)
			}
			break
		}
	}
	for x := range h.Least {
		t.Error(x)
	}
}
