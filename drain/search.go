package drain

import "math/bits"

// wish is what is looked for.
type wish[T any] struct{ suits func(x T) bool }

// first returns the first of some items that suits, and whether there is one.
func first[T any](all []T, w wish[T]) (found T, ok bool) {
	for _, x := range all {
		if w.suits(x) {
			return x, true
		}
	}
	return found, false
}

// subsets returns all sets of so many elements, those of few elements first, then by their numbers.
func subsets(of int) []int {
	var list []int
	for many := range of + 1 {
		for set := range 1 << of {
			if bits.OnesCount(uint(set)) == many {
				list = append(list, set)
			}
		}
	}
	return list
}

// has tells whether a number is in a set.
func has(set, n int) bool { return set>>n&1 == 1 }
