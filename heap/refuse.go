package heap

import (
	"slices"

	"bogworks/api"
)

// refusal is the error with which a call gives up. It is panicked, so that no step in between has to hand it on.
type refusal api.Errno

// refuse gives the call up with an error.
func refuse(when bool, code api.Errno) {
	if when {
		panic(refusal(code))
	}
}

// attempt does the work on heaps and returns the error with which it was given up.
func attempt(h api.Heap, work func(f field)) (e api.Errno) {
	defer func() {
		switch r := recover().(type) {
		case nil:
		case refusal:
			e = api.Errno(r)
		default:
			// Only heaps that valid should have refused could lead here.
			e = api.ErrArg
		}
	}()
	refuse(!valid(h), api.ErrArg)
	work(field(h))
	return api.OK
}

// valid tells whether heaps are such as the document says.
func valid(h api.Heap) bool {
	badLook := func(l api.HeapLook) bool {
		return !inside(l.Heap, 0, len(h.Heaps)-1) || !inside(l.Day, 0, len(h.Rains)-1) || !within(l.Shows, 0, api.HeapWet)
	}
	badDry := func(dry int) bool { return !inside(dry, 0, api.HeapDries) }
	return inside(len(h.Heaps), 1, api.HeapHeaps) && !slices.ContainsFunc(turfs(h.Heaps, nil), turf.bad) &&
		inside(len(h.Rains), 1, api.HeapDays) && !slices.ContainsFunc(h.Rains, badRain) &&
		!slices.ContainsFunc(h.Dries[:], badDry) && slices.IsSorted(h.Dries[:]) &&
		inside(h.Limit, 0, api.HeapWet) &&
		len(h.Looks) <= api.HeapLooks && !slices.ContainsFunc(h.Looks, badLook)
}

// badRain tells whether the rain of a day is not valid.
func badRain(rain api.Span) bool {
	// The difference comes last: it is exact only of ends that are not too far apart.
	return !within(rain, 0, api.HeapRain) || rain.Hi-rain.Lo > api.HeapWide
}

// within tells whether a span is valid and lies between two numbers.
func within(s api.Span, from, to int) bool { return s.Lo <= s.Hi && from <= s.Lo && s.Hi <= to }

// inside tells whether a number is from one to another one.
func inside(n, from, to int) bool { return from <= n && n <= to }
