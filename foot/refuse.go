package foot

import (
	"slices"

	"bogworks/api"
)

// refusal is the error with which a call gives up. It is panicked, so that no step in between has to hand it on.
type refusal api.Errno

// refuse gives the call up with an error.
func refuse(when bool, code api.Errno) {
	if when {
		panic(refusal(code))
	}
}

// attempt does what a call is for and returns the error with which it was given up.
func attempt(f api.Foot, call func(w work)) (e api.Errno) {
	defer func() {
		switch r := recover().(type) {
		case nil:
		case refusal:
			e = api.Errno(r)
		default:
			// Only work that valid should have refused could lead here.
			e = api.ErrArg
		}
	}()
	refuse(!valid(f), api.ErrArg)
	call(work(f))
	return api.OK
}

// valid tells whether work is such as the document says.
func valid(f api.Foot) bool {
	badRain := func(rain api.Span) bool { return !within(rain, 0, api.FootRain) }
	badLimit := func(limit int) bool { return !inside(limit, 0, api.FootMost) }
	badDry := func(dry int) bool { return !inside(dry, 0, api.FootDry) }
	badHeap := func(h api.FootHeap) bool {
		return !within(h.Wet, 0, api.FootMost) || !inside(h.Sods, 0, api.FootSods)
	}
	return inside(len(f.Rain), 1, api.FootDays) && !slices.ContainsFunc(f.Rain, badRain) &&
		inside(f.Men, 0, api.FootHeaps) &&
		!slices.ContainsFunc(f.Limits[:], badLimit) && !slices.ContainsFunc(f.Dries[:], badDry) &&
		len(f.Heaps) <= api.FootHeaps && !slices.ContainsFunc(f.Heaps, badHeap)
}

// within tells whether a span is valid and lies between two numbers.
func within(s api.Span, from, to int) bool { return s.Lo <= s.Hi && from <= s.Lo && s.Hi <= to }

// inside tells whether a number is from one to another one.
func inside(n, from, to int) bool { return from <= n && n <= to }
