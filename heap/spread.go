package heap

import (
	"iter"
	"math"
	"math/bits"

	"bogworks/api"
)

// measure is what is measured of each item of a map.
type measure[K comparable, V any] struct{ of func(K, V) api.Span }

// spread returns the span from the least to the greatest number that is measured of some item.
func spread[K comparable, V any](all map[K]V, m measure[K, V]) api.Span {
	wide := join()
	for k, v := range all {
		wide = join(wide, m.of(k, v))
	}
	return wide
}

// join returns the least span that contains some spans. That of no spans adds nothing to others.
func join(spans ...api.Span) api.Span {
	wide := api.Span{Lo: math.MaxInt, Hi: math.MinInt}
	for _, s := range spans {
		wide = api.Span{Lo: min(wide.Lo, s.Lo), Hi: max(wide.Hi, s.Hi)}
	}
	return wide
}

// one returns the span that contains one number.
func one(n int) api.Span { return api.Span{Lo: n, Hi: n} }

// keep yields those of some items that suit.
func keep[T any](all iter.Seq[T], suits func(T) bool) iter.Seq[T] {
	return func(yield func(T) bool) {
		for x := range all {
			if suits(x) && !yield(x) {
				return
			}
		}
	}
}

// fewest returns the set of the fewest of so many that suits, of several the least number; there must be one.
func fewest(of int, suits func(set int) bool) int {
	for many := range of + 1 {
		for set := range 1 << of {
			if bits.OnesCount(uint(set)) == many && suits(set) {
				return set
			}
		}
	}
	panic("no set suits")
}
