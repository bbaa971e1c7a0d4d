package road

import (
	"slices"

	"bogworks/api"
)

// A look can show any height up to so far above the water, or below.
const shown = 1000

// refusal is the error with which a call gives up. It is panicked, so that no step in between has to hand it on.
type refusal api.Errno

// refuse gives the call up with an error.
func refuse(when bool, code api.Errno) {
	if when {
		panic(refusal(code))
	}
}

// attempt does what a call is for and returns the error with which it was given up.
func attempt(r api.Road, call func(g ground)) (e api.Errno) {
	defer func() {
		switch p := recover().(type) {
		case nil:
		case refusal:
			e = api.Errno(p)
		default:
			// Only a road that valid should have refused could lead here.
			e = api.ErrArg
		}
	}()
	refuse(!valid(r), api.ErrArg)
	call(ground{partsOf(r.Parts), eventsOf(r.Events)})
	return api.OK
}

// needLoad gives the call up if a load is none.
func needLoad(load int) { refuse(!inside(load, 0, api.RoadLoad), api.ErrRange) }

// valid tells whether a road is such as the document says.
func valid(r api.Road) bool {
	badEvent := func(e api.RoadEvent) bool { return !validEvent(e, len(r.Parts)) }
	return inside(len(r.Parts), 1, api.RoadParts) && !slices.ContainsFunc(partsOf(r.Parts), part.bad) &&
		len(r.Events) <= api.RoadEvents && !slices.ContainsFunc(r.Events, badEvent) &&
		doubts(r.Events) <= api.RoadDoubts
}

// validEvent tells whether an event is valid on a road of so many parts.
func validEvent(e api.RoadEvent, parts int) bool {
	switch e.Kind {
	case api.RoadPass:
		return narrow(e.Load, 0, api.RoadLoad)
	case api.RoadRest:
		return inside(e.Days, 1, api.RoadDays)
	case api.RoadLook:
		return inside(e.Part, 0, parts-1) && within(e.Shows, -shown, shown)
	}
	return false
}

// doubts returns how many passes there are whose load is not known exactly.
func doubts(events []api.RoadEvent) int {
	many := 0
	for _, e := range events {
		if e.Kind == api.RoadPass && e.Load.Lo != e.Load.Hi {
			many++
		}
	}
	return many
}

// narrow tells whether a span lies between two numbers and is no wider than what can be in doubt.
func narrow(s api.Span, from, to int) bool {
	// The difference comes last: it is exact only of ends that are not too far apart.
	return within(s, from, to) && s.Hi-s.Lo <= api.RoadWide
}

// within tells whether a span is valid and lies between two numbers.
func within(s api.Span, from, to int) bool { return s.Lo <= s.Hi && from <= s.Lo && s.Hi <= to }

// inside tells whether a number is from one to another one.
func inside(n, from, to int) bool { return from <= n && n <= to }
