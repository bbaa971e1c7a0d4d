package cut

import (
	"math"

	"bogworks/api"
)

// depths is how deep the water can be at some time.
type depths struct{ api.Span }

// none tells whether it can have no depth at all.
func (d depths) none() bool { return d.Lo > d.Hi }

// meet returns the depths that are also others.
func (d depths) meet(with depths) depths {
	return depths{api.Span{Lo: max(d.Lo, with.Lo), Hi: min(d.Hi, with.Hi)}}
}

// surely tells whether the least depth is enough for all that may be needed.
func (d depths) surely(need api.Span) bool { return d.Lo >= need.Hi }

// perhaps tells whether the greatest depth is enough for the least that may be needed.
func (d depths) perhaps(need api.Span) bool { return d.Hi >= need.Lo }

// floats returns whether a boat floats that needs so deep water.
func (d depths) floats(need api.Span) int {
	switch {
	case d.surely(need):
		return api.CutAlways
	case d.perhaps(need):
		return api.CutPerhaps
	}
	return api.CutNever
}

// join returns the least span that contains some spans. That of no spans adds nothing to others.
func join(spans ...api.Span) api.Span {
	wide := api.Span{Lo: math.MaxInt, Hi: math.MinInt}
	for _, s := range spans {
		wide = api.Span{Lo: min(wide.Lo, s.Lo), Hi: max(wide.Hi, s.Hi)}
	}
	return wide
}

// one returns the span that contains one number.
func one(n int) api.Span { return api.Span{Lo: n, Hi: n} }
