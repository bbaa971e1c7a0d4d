package drain

import (
	"math"

	"bogworks/api"
)

// known is all levels that banks can have if what was seen is right, and where water goes by the drains that there are, by each.
type known map[levels]course

// places returns the set of the places that belong to a bank, one by each course.
func (k known) places(bank int, of func(c course, bank int) int) int {
	set := 0
	for _, c := range k {
		set |= 1 << of(c, bank)
	}
	return set
}

// amount returns how much water there can be of some kind.
func (k known) amount(of func(c course) api.Span) api.Span {
	wide := api.Span{Lo: math.MaxInt, Hi: math.MinInt}
	for _, c := range k {
		s := of(c)
		wide = api.Span{Lo: min(wide.Lo, s.Lo), Hi: max(wide.Hi, s.Hi)}
	}
	return wide
}

// straight returns how much water can go straight from a bank to another one.
func (k known) straight(from, to int) api.Span {
	return k.amount(func(c course) api.Span { return c.straight(from, to) })
}
