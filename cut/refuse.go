package cut

import (
	"slices"

	"bogworks/api"
)

// refusal is the error with which a call gives up. It is panicked, so that no step in between has to hand it on.
type refusal api.Errno

// refuse gives the call up with an error.
func refuse(when bool, code api.Errno) {
	if when {
		panic(refusal(code))
	}
}

// attempt does what a call is for and returns the error with which it was given up.
func attempt(c api.Cut, call func(w water)) (e api.Errno) {
	defer func() {
		switch p := recover().(type) {
		case nil:
		case refusal:
			e = api.Errno(p)
		default:
			// Only a cut that valid should have refused could lead here.
			e = api.ErrArg
		}
	}()
	refuse(!valid(c), api.ErrArg)
	call(water(c))
	return api.OK
}

// valid tells whether a cut is such as the document says.
func valid(c api.Cut) bool {
	badRain := func(rain api.Span) bool { return !within(rain, 0, api.CutRain) }
	badLook := func(l api.CutLook) bool {
		return !inside(l.Day, 0, len(c.Rain)) || !within(l.Depth, 0, api.CutDepth)
	}
	return inside(len(c.Rain), 1, api.CutDays) && !slices.ContainsFunc(c.Rain, badRain) &&
		inside(c.Most, 1, api.CutDepth) && within(c.Depth, 0, c.Most) && within(c.Leak, 0, api.CutLeak) &&
		len(c.Boats) <= api.CutBoats && !slices.ContainsFunc(c.Boats, badBoat) &&
		len(c.Looks) <= api.CutLooks && !slices.ContainsFunc(c.Looks, badLook)
}

// badBoat tells whether a boat is not valid.
func badBoat(b api.CutBoat) bool {
	return !within(b.Draws, 0, api.CutDepth) || !inside(b.Per, 0, api.CutPer) || !inside(b.Room, 0, api.CutRoom)
}

// within tells whether a span is valid and lies between two numbers.
func within(s api.Span, from, to int) bool { return s.Lo <= s.Hi && from <= s.Lo && s.Hi <= to }

// inside tells whether a number is from one to another one.
func inside(n, from, to int) bool { return from <= n && n <= to }
