package foot

import "iter"

// wish is what is looked for: an item that suits, and than which no other one that does is better.
type wish[T any] struct {
	suits  func(x T) bool
	better func(x, than T) bool
}

// first returns the first of some items that is what is looked for, and whether there is one.
func first[T any](all iter.Seq[T], w wish[T]) (found T, ok bool) {
	for x := range all {
		if w.suits(x) && (!ok || w.better(x, found)) {
			found, ok = x, true
		}
	}
	return found, ok
}
