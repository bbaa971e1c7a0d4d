package clamp

import (
	"slices"

	"bogworks/api"
)

// refusal is the error with which a call gives up. It is panicked, so that no step in between has to hand it on.
type refusal api.Errno

// refuse gives the call up with an error.
func refuse(when bool, code api.Errno) {
	if when {
		panic(refusal(code))
	}
}

// attempt does what a call is for and returns the error with which it was given up.
func attempt(c api.Clamp, call func(y yard)) (e api.Errno) {
	defer func() {
		switch p := recover().(type) {
		case nil:
		case refusal:
			e = api.Errno(p)
		default:
			// Only clamps that valid should have refused could lead here.
			e = api.ErrArg
		}
	}()
	refuse(!valid(c), api.ErrArg)
	call(yard{c.Piles, sods{c.Pack}, eventsOf(c.Events)})
	return api.OK
}

// needSods gives the call up if nobody can ask for so many sods.
func needSods(n int) { refuse(!inside(n, 0, 4*api.ClampSods), api.ErrRange) }

// valid tells whether clamps are such as the document says.
func valid(c api.Clamp) bool {
	badEvent := func(e api.ClampEvent) bool { return !isEvent(e, len(c.Piles)) }
	return inside(len(c.Piles), 1, api.ClampPiles) && !slices.ContainsFunc(c.Piles, badPile) &&
		narrow(c.Pack, 1, api.ClampPack, api.ClampPacks) &&
		len(c.Events) <= api.ClampEvents && !slices.ContainsFunc(c.Events, badEvent)
}

// badPile tells whether a clamp is not valid.
func badPile(p api.ClampPile) bool {
	badFeet := func(feet api.Span) bool { return !narrow(feet, 1, api.ClampFeet, api.ClampNear) }
	return badFeet(p.Long) || badFeet(p.Wide) || badFeet(p.High)
}

// isEvent tells whether an event is valid of so many clamps.
func isEvent(e api.ClampEvent, clamps int) bool {
	if !inside(e.Clamp, 0, clamps-1) {
		return false
	}
	switch e.Kind {
	case api.ClampSale:
		return narrow(e.Sods, 0, api.ClampSods, api.ClampSales)
	case api.ClampCount:
		return within(e.Sods, 0, api.ClampSods)
	}
	return false
}

// narrow tells whether a span lies between two numbers and is at most so wide.
func narrow(s api.Span, from, to, wide int) bool { return within(s, from, to) && s.Hi-s.Lo <= wide }

// within tells whether a span is valid and lies between two numbers.
func within(s api.Span, from, to int) bool { return s.Lo <= s.Hi && from <= s.Lo && s.Hi <= to }

// inside tells whether a number is from one to another one.
func inside(n, from, to int) bool { return from <= n && n <= to }
