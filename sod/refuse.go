package sod

import (
	"slices"

	"bogworks/api"
)

// refusal is the error with which a call gives up. It is panicked, so that no step in between has to hand it on.
type refusal api.Errno

// refuse gives the call up with an error.
func refuse(when bool, code api.Errno) {
	if when {
		panic(refusal(code))
	}
}

// attempt does the work on a bank and returns the error with which it was given up.
func attempt(s api.Sod, work func(b bank)) (e api.Errno) {
	defer func() {
		switch r := recover().(type) {
		case nil:
		case refusal:
			e = api.Errno(r)
		default:
			// Only a bank that valid should have refused could lead here.
			e = api.ErrArg
		}
	}()
	refuse(!valid(s), api.ErrArg)
	work(bank(s))
	return api.OK
}

// valid tells whether a bank is such as the document says.
func valid(s api.Sod) bool {
	badLog := func(l api.SodLog) bool {
		return !inside(l.Day, 0, len(s.Days)-1) || !within(l.Sods, 0, api.SodCount)
	}
	return inside(len(s.Spits), 1, api.SodSpits) && !slices.ContainsFunc(s.Spits, badSpit) &&
		inside(len(s.Days), 1, api.SodDays) && !slices.ContainsFunc(s.Days, badDay) &&
		len(s.Logs) <= api.SodLogs && !slices.ContainsFunc(s.Logs, badLog)
}

// badSpit tells whether a spit is not valid.
func badSpit(s api.SodSpit) bool {
	// The difference comes last: it is exact only of ends that are not too far apart.
	return !inside(s.Sods, 1, api.SodSods) || !within(s.Cost, 1, api.SodCost) || s.Cost.Hi-s.Cost.Lo > api.SodWide
}

// badDay tells whether the strokes of a day are not valid.
func badDay(strokes api.Span) bool { return !within(strokes, 0, api.SodStrokes) }

// within tells whether a span is valid and lies between two numbers.
func within(s api.Span, from, to int) bool { return s.Lo <= s.Hi && from <= s.Lo && s.Hi <= to }

// inside tells whether a number is from one to another one.
func inside(n, from, to int) bool { return from <= n && n <= to }
