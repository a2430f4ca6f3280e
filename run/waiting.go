package run

import (
	"iter"
	"slices"
)

// waiting is what waits until it is the least one, by how two are compared.
type waiting[T any] struct {
	compare func(a, b T) int
	list    []T
}

func (w *waiting[T]) push(x T) {
	i, _ := slices.BinarySearchFunc(w.list, x, w.compare)
	w.list = slices.Insert(w.list, i, x)
}

// least yields and takes out the least one, again and again, until none waits. More may be pushed in between.
func (w *waiting[T]) least() iter.Seq[T] {
	return func(yield func(T) bool) {
		for len(w.list) > 0 {
			x := w.list[0]
			w.list = w.list[1:]
			if !yield(x) {
				return
			}
		}
	}
}
