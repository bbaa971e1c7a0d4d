package drain

import (
	"slices"

	"bogworks/api"
)

// refusal is the error with which a call gives up. It is panicked, so that no step in between has to hand it on.
type refusal api.Errno

// refuse gives the call up with an error.
func refuse(when bool, code api.Errno) {
	if when {
		panic(refusal(code))
	}
}

// attempt does what a call is for and returns the error with which it was given up.
func attempt(d api.Drain, call func(b bog)) (e api.Errno) {
	defer func() {
		switch p := recover().(type) {
		case nil:
		case refusal:
			e = api.Errno(p)
		default:
			// Only drains that valid should have refused could lead here.
			e = api.ErrArg
		}
	}()
	refuse(!valid(d), api.ErrArg)
	call(bog(d))
	return api.OK
}

// valid tells whether drains are such as the document says.
func valid(d api.Drain) bool {
	many := len(d.Banks)
	badWay := func(w api.DrainWay) bool { return !pair(w.A, w.B, many) }
	badRight := func(r api.DrainRight) bool { return !pair(r.Of, r.To, many) || !inside(r.Most, 0, api.DrainMost) }
	return inside(many, 1, api.DrainBanks) && !slices.ContainsFunc(d.Banks, badBank) &&
		len(d.Drains) <= api.DrainDrains && !slices.ContainsFunc(d.Drains, badWay) &&
		len(d.Rights) <= api.DrainRights && !slices.ContainsFunc(d.Rights, badRight) &&
		len(d.Seen) <= api.DrainSeen && !slices.ContainsFunc(d.Seen, badWay)
}

// badBank tells whether a bank is not valid.
func badBank(b api.DrainBank) bool {
	return !within(b.Level, 0, api.DrainLevel) || !within(b.Yield, 0, api.DrainYield)
}

// within tells whether a span is valid, lies between two numbers and is no wider than it may be.
func within(s api.Span, from, to int) bool {
	// The width comes last: only that of small numbers is sure to be exact.
	return s.Lo <= s.Hi && from <= s.Lo && s.Hi <= to && s.Hi-s.Lo <= api.DrainWide
}

// pair tells whether two numbers are those of two different ones of so many banks.
func pair(a, b, banks int) bool {
	return inside(a, 0, banks-1) && inside(b, 0, banks-1) && a != b
}

// inside tells whether a number is from one to another one.
func inside(n, from, to int) bool { return from <= n && n <= to }
