package cone

// worklist hands out items in the order in which they were added.
type worklist[T any] struct{ items []T }

func (w *worklist[T]) add(item T) { w.items = append(w.items, item) }

// next returns the next item and true, or false if none is left.
func (w *worklist[T]) next() (item T, is bool) {
	if len(w.items) == 0 {
		return item, false
	}
	item, w.items = w.items[0], w.items[1:]
	return item, true
}
