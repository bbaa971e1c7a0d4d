// Package bank finds whose each perch of a bank is, as leases and marks leave it: see shared/doc/01-bank.md.
package bank

import (
	"math/bits"

	"bogworks/api"
)

// Whose returns the set of those whose a perch is in some truth.
func Whose(b api.Bank, perch int) (holders int, e api.Errno) {
	e = attempt(b, func(g ground) {
		refuse(!inside(perch, 0, g.perches-1), api.ErrRange)
		g.needTruth()
		holders = g.whose(perch)
	})
	return holders, e
}

// Has returns the perches that a holder has in each truth, and those that it has in some.
func Has(b api.Bank, holder int) (surely, perhaps int, e api.Errno) {
	e = attempt(b, func(g ground) {
		refuse(!inside(holder, 0, g.nobody), api.ErrRange)
		g.needTruth()
		surely, perhaps = g.has(holder)
	})
	return surely, perhaps, e
}

// Wide returns how many perches a holder has, from the least to the greatest number.
func Wide(b api.Bank, holder int) (wide api.Span, e api.Errno) {
	e = attempt(b, func(g ground) {
		refuse(!inside(holder, 0, g.nobody), api.ErrRange)
		g.needTruth()
		wide = g.truths(g.marks, holder).reach()
	})
	return wide, e
}

// Line returns whether a perch and the one before it are those of different ones.
func Line(b api.Bank, perch int) (line int, e api.Errno) {
	e = attempt(b, func(g ground) {
		refuse(!inside(perch, 1, g.perches-1), api.ErrRange)
		g.needTruth()
		line = g.line(perch)
	})
	return line, e
}

// Count returns how many truths there are.
func Count(b api.Bank) (truths int, e api.Errno) {
	e = attempt(b, func(g ground) { truths = g.count(g.marks) })
	return truths, e
}

// Ask returns the perch that leaves the fewest truths, whoever it is found to be of, and how many at most.
func Ask(b api.Bank) (perch, left int, e api.Errno) {
	e = attempt(b, func(g ground) {
		g.needTruth()
		perch, left = g.ask()
	})
	return perch, left, e
}

// False returns how few marks must be false, and which.
func False(b api.Bank) (many, marks int, e api.Errno) {
	e = attempt(b, func(g ground) {
		marks = first(g.marks.sets(), wish[int]{func(out int) bool { return g.possible(g.marks.without(out)) }})
		many = bits.OnesCount(uint(marks))
	})
	return many, marks, e
}

// Clash returns the fewest marks that cannot all be right.
func Clash(b api.Bank) (marks int, e api.Errno) {
	e = attempt(b, func(g ground) {
		marks = first(g.marks.sets(), wish[int]{func(only int) bool { return !g.possible(g.marks.without(^only)) }})
	})
	return marks, e
}
