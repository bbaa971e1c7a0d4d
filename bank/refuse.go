package bank

import "bogworks/api"

// refusal is the error with which a call gives up. It is panicked, so that no step in between has to hand it on.
type refusal struct{ code api.Errno }

// refuse gives the call up with an error.
func refuse(when bool, code api.Errno) {
	if when {
		panic(refusal{code})
	}
}

// attempt does the work on a bank and returns the error with which it was given up.
func attempt(b api.Bank, work func(g ground)) (e api.Errno) {
	defer func() {
		switch r := recover().(type) {
		case nil:
		case refusal:
			e = r.code
		default:
			// Only a bank that valid should have refused could lead here.
			e = api.ErrArg
		}
	}()
	refuse(!valid(b), api.ErrArg)
	work(survey(b))
	return api.OK
}

// valid tells whether a bank is such as the document says.
func valid(b api.Bank) bool {
	return inside(b.Perches, 1, api.BankPerches) &&
		inside(b.Holders, 1, api.BankHolders) &&
		len(b.Leases) <= api.BankLeases && all(leases(b), lease.fits, b) &&
		len(b.Marks) <= api.BankMarks && all(b.Marks, markFits, b)
}

// all tells whether each item fits a bank.
func all[T any](items []T, fits func(T, api.Bank) bool, b api.Bank) bool {
	for _, x := range items {
		if !fits(x, b) {
			return false
		}
	}
	return true
}

// markFits tells whether a mark is on a perch of the bank, and of one of its holders, or nobody.
func markFits(m api.BankMark, b api.Bank) bool {
	return inside(m.Perch, 0, b.Perches-1) && inside(m.Holder, 0, b.Holders)
}

// inside tells whether a number is from one to another one.
func inside(n, from, to int) bool { return from <= n && n <= to }
