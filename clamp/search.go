package clamp

import (
	"iter"
	"math/bits"
)

// wish is what is looked for.
type wish[T any] struct{ suits func(x T) bool }

// first returns the first of some items that is what is looked for, and whether there is one.
func first[T any](all iter.Seq[T], w wish[T]) (found T, ok bool) {
	for x := range all {
		if w.suits(x) {
			return x, true
		}
	}
	return found, false
}

// subsets yields all sets of which each element is in a given one, those of few elements first, then by their numbers.
func subsets(of int) iter.Seq[int] {
	return func(yield func(set int) bool) {
		for many := range bits.OnesCount(uint(of)) + 1 {
			for set := range of + 1 {
				if set&^of == 0 && bits.OnesCount(uint(set)) == many && !yield(set) {
					return
				}
			}
		}
	}
}

// in tells whether a number is in a set.
func in(set, n int) bool { return set>>n&1 == 1 }

// product returns some numbers multiplied.
func product(numbers ...int) int {
	all := 1
	for _, n := range numbers {
		all *= n
	}
	return all
}
