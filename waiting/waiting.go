// Package waiting has what waits until it is the least one.
package waiting

// Heap is what waits until it is the least one, by how two are compared. None in its list is less than the one above it, at about half its number.
type Heap[T any] struct {
	compare func(a, b T) int
	list    []T
}

// NewHeap returns a heap in which nothing waits.
func NewHeap[T any](compare func(a, b T) int) *Heap[T] { return &Heap[T]{compare: compare} }

// Push lets something wait.
func (h *Heap[T]) Push(x T) {
	h.list = append(h.list, x)
	for i := len(h.list) - 1; i > 0; {
		above := (i - 1) / 2
		if !h.isLess(i, above) {
			break
		}
		h.swap(i, above)
		i = above
	}
}

// Least yields and takes out the least one, again and again, until none waits. More may be pushed in between.
func (h *Heap[T]) Least(yield func(T) bool) {
	for len(h.list) > 0 && yield(h.pop()) {
	}
}

// pop takes out the least one.
func (h *Heap[T]) pop() T {
	last := len(h.list) - 1
	h.swap(0, last)
	least := h.list[last]
	h.list = h.list[:last]
	for i := 0; ; {
		next := h.leastOf(i, 2*i+1, 2*i+2)
		if next == i {
			return least
		}
		h.swap(i, next)
		i = next
	}
}

// leastOf returns the number of the least one of three, the last two of which need not be there.
func (h *Heap[T]) leastOf(above, left, right int) int {
	least := above
	if left < len(h.list) && h.isLess(left, least) {
		least = left
	}
	if right < len(h.list) && h.isLess(right, least) {
		least = right
	}
	return least
}

func (h *Heap[T]) isLess(i, k int) bool { return h.compare(h.list[i], h.list[k]) < 0 }

func (h *Heap[T]) swap(i, k int) { h.list[i], h.list[k] = h.list[k], h.list[i] }
