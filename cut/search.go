package cut

import (
	"cmp"
	"iter"
	"math/bits"
)

// wish is what is looked for.
type wish[T any] struct{ suits func(x T) bool }

// greatest returns the greatest of some items that suits, and whether there is one.
func greatest[T cmp.Ordered](all iter.Seq[T], w wish[T]) (found T, ok bool) {
	for x := range all {
		if w.suits(x) && (!ok || x > found) {
			found, ok = x, true
		}
	}
	return found, ok
}

// numbers yields the numbers from one to another one.
func numbers(from, to int) iter.Seq[int] {
	return func(yield func(n int) bool) {
		for n := from; n <= to; n++ {
			if !yield(n) {
				return
			}
		}
	}
}

// subsets returns all sets of so many elements, those of few elements first, then by their numbers.
func subsets(of int) []int {
	var list []int
	for many := range of + 1 {
		for set := range 1 << of {
			if bits.OnesCount(uint(set)) == many {
				list = append(list, set)
			}
		}
	}
	return list
}
