package mend

// waiting is what waits for its turn, in the order in which it came, and what had its turn; each of it came once.
type waiting[T comparable] struct {
	list []T
	came map[T]bool
}

func waitingFor[T comparable](first T) *waiting[T] {
	w := waiting[T]{came: map[T]bool{}}
	w.push(first)
	return &w
}

// push lets something wait, unless it came before.
func (w *waiting[T]) push(x T) {
	if !w.came[x] {
		w.came[x] = true
		w.list = append(w.list, x)
	}
}

// all yields one after the other. More may be pushed in between.
func (w *waiting[T]) all(yield func(T) bool) {
	for next := 0; next < len(w.list); next++ {
		if !yield(w.list[next]) {
			return
		}
	}
}
