package burst

import (
	"slices"

	"bogworks/api"
)

// refusal is the error with which a call gives up. It is panicked, so that no step in between has to hand it on.
type refusal api.Errno

// refuse gives the call up with an error.
func refuse(when bool, code api.Errno) {
	if when {
		panic(refusal(code))
	}
}

// attempt does what a call is for and returns the error with which it was given up.
func attempt(b api.Burst, call func(b bog)) (e api.Errno) {
	defer func() {
		switch p := recover().(type) {
		case nil:
		case refusal:
			e = api.Errno(p)
		default:
			// Only a bog that valid should have refused could lead here.
			e = api.ErrArg
		}
	}()
	refuse(!valid(b), api.ErrArg)
	call(bog(b))
	return api.OK
}

// valid tells whether a bog is such as the document says.
func valid(b api.Burst) bool {
	badRain := func(rain api.Span) bool { return !within(rain, 0, api.BurstRain) }
	badSign := func(s api.BurstSign) bool { return !isSign(s, len(b.Banks), len(b.Rain)) }
	return inside(len(b.Banks), 1, api.BurstBanks) && !slices.ContainsFunc(b.Banks, badBank) &&
		within(b.Water, -api.BurstWater, api.BurstWater) &&
		inside(len(b.Rain), 1, api.BurstDays) && !slices.ContainsFunc(b.Rain, badRain) &&
		inside(b.Drain, 0, api.BurstDrain) &&
		len(b.Signs) <= api.BurstSigns && !slices.ContainsFunc(b.Signs, badSign)
}

// badBank tells whether a bank is not valid.
func badBank(b api.BurstBank) bool {
	return !within(b.Bears, 0, api.BurstBears) || !within(b.Cut, 0, api.BurstCut)
}

// isSign tells whether a sign is valid of so many banks, up to a last day. Brown water is that of no bank.
func isSign(s api.BurstSign, banks, last int) bool {
	if !inside(s.Day, 0, last) {
		return false
	}
	switch s.Kind {
	case api.BurstCrack, api.BurstSwell:
		return inside(s.Bank, 0, banks-1)
	case api.BurstBrown:
		return true
	}
	return false
}

// within tells whether a span is valid and lies between two numbers.
func within(s api.Span, from, to int) bool { return s.Lo <= s.Hi && from <= s.Lo && s.Hi <= to }

// inside tells whether a number is from one to another one.
func inside(n, from, to int) bool { return from <= n && n <= to }
