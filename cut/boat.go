package cut

import "bogworks/api"

// boat is a boat of a valid cut.
type boat api.CutBoat

// needs returns how deep water the boat can need with so many loads, and gives the call up if it has no room for them.
func (b boat) needs(loads int) api.Span {
	refuse(!inside(loads, 0, b.Room), api.ErrRange)
	return api.Span{Lo: b.Draws.Lo + b.Per*loads, Hi: b.Draws.Hi + b.Per*loads}
}

// most returns the greatest number of loads with which the water is deep enough, -1 if it is not even without.
func (b boat) most(enough func(need api.Span) bool) int {
	loads, ok := greatest(numbers(0, b.Room), wish[int]{func(loads int) bool { return enough(b.needs(loads)) }})
	if !ok {
		return -1
	}
	return loads
}
