package road

import (
	"iter"
	"math"
	"math/bits"

	"bogworks/api"
)

// wish is what is looked for.
type wish[T any] struct{ suits func(x T) bool }

// first returns the first of some items that is what is looked for, and whether there is one.
func first[T any](all iter.Seq[T], w wish[T]) (found T, ok bool) {
	for x := range all {
		if w.suits(x) {
			return x, true
		}
	}
	return found, false
}

// numbers yields the numbers from one to another one, which may be less.
func numbers(from, to int) iter.Seq[int] {
	step := 1
	if to < from {
		step = -1
	}
	return func(yield func(n int) bool) {
		for n := from; n != to+step; n += step {
			if !yield(n) {
				return
			}
		}
	}
}

// subsets yields all sets of which each element is in a given one, those of few elements first, then by their numbers.
func subsets(of int) iter.Seq[int] {
	return func(yield func(set int) bool) {
		for many := range bits.OnesCount(uint(of)) + 1 {
			for set := range of + 1 {
				if set&^of == 0 && bits.OnesCount(uint(set)) == many && !yield(set) {
					return
				}
			}
		}
	}
}

// join returns the least span that contains some spans. That of no spans adds nothing to others.
func join(spans ...api.Span) api.Span {
	wide := api.Span{Lo: math.MaxInt, Hi: math.MinInt}
	for _, s := range spans {
		wide = api.Span{Lo: min(wide.Lo, s.Lo), Hi: max(wide.Hi, s.Hi)}
	}
	return wide
}

// one returns the span that contains one number.
func one(n int) api.Span { return api.Span{Lo: n, Hi: n} }
