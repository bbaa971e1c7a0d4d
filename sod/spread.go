package sod

import (
	"math"

	"bogworks/api"
)

// measure is what is measured of each item of a map.
type measure[K comparable, V any] struct{ of func(K, V) api.Span }

// spread returns the span from the least to the greatest number that is measured of some item; there must be one.
func spread[K comparable, V any](all map[K]V, m measure[K, V]) api.Span {
	wide := api.Span{Lo: math.MaxInt, Hi: math.MinInt}
	for k, v := range all {
		s := m.of(k, v)
		wide = api.Span{Lo: min(wide.Lo, s.Lo), Hi: max(wide.Hi, s.Hi)}
	}
	return wide
}
