package burst

import (
	"iter"
	"slices"

	"bogworks/api"
)

// bog is a valid bog, with all that was given of it.
type bog api.Burst

// spot is a bank on a day.
type spot struct{ bank, day int }

// taken is the set of the signs that are taken to be right, and on how many days, from the first one on, no bank is wished to move.
type taken struct{ signs, safe int }

// known is by how much the numbers of a bog can differ, by all that is taken and leaves a truth.
type known map[taken]gaps

// with returns what is known with something that is taken, and gives the call up if it leaves no truth.
func (k known) with(t taken) gaps {
	g, ok := k[t]
	refuse(!ok, api.ErrClash)
	return g
}

// needBank gives the call up if a bank is none.
func (b bog) needBank(bank int) { refuse(!inside(bank, 0, len(b.Banks)-1), api.ErrRange) }

// needDay gives the call up if a day is none.
func (b bog) needDay(day int) { refuse(!inside(day, 0, len(b.Rain)), api.ErrRange) }

// spots yields the banks from one to another one, each on the days from one to another one: all spots of a bank come before those of the
// next one, so that of several that are equally weak the first one is that of the first bank.
func spots(from, to spot) iter.Seq[spot] {
	return func(yield func(s spot) bool) {
		for bank := from.bank; bank <= to.bank; bank++ {
			for day := from.day; day <= to.day; day++ {
				if !yield(spot{bank, day}) {
					return
				}
			}
		}
	}
}

// days yields all banks on the days from one to another one.
func (b bog) days(from, to int) iter.Seq[spot] {
	return spots(spot{0, from}, spot{len(b.Banks) - 1, to})
}

// flow returns the bounds of the water, from day to day.
func (b bog) flow() []bound {
	list := differ(wet(0), nought, b.Water)
	for day, rain := range b.Rain {
		grows := api.Span{Lo: rain.Lo - b.Drain, Hi: rain.Hi - b.Drain}
		list = append(list, differ(wet(day+1), wet(day), grows)...)
	}
	return list
}

// strength returns the bounds of what banks bear.
func (b bog) strength() (list []bound) {
	for bank, x := range b.Banks {
		bears := api.Span{Lo: x.Bears.Lo - x.Cut.Hi, Hi: x.Bears.Hi - x.Cut.Lo}
		list = append(list, differ(firm(bank), nought, bears)...)
	}
	return list
}

// only returns the signs that are in a set.
func (b bog) only(set int) []api.BurstSign {
	signs := make([]api.BurstSign, len(b.Signs))
	copy(signs, b.Signs)
	for n := len(signs) - 1; n >= 0; n-- {
		if !has(set, n) {
			signs = slices.Delete(signs, n, n+1)
		}
	}
	return signs
}

// told returns the bounds that the signs of a set tell of.
func (b bog) told(set int) (list []bound) {
	for _, s := range b.only(set) {
		list = append(list, read(s).tells()...)
	}
	return list
}

// wished returns the bounds by which no bank moves on so many days, from the first one on.
func (b bog) wished(days int) (list []bound) {
	for s := range b.days(0, days-1) {
		list = append(list, bound{wet(s.day), firm(s.bank), 0})
	}
	return list
}

// bounds yields all bounds with what is taken.
func (b bog) bounds(t taken) iter.Seq[bound] {
	return together(b.flow(), b.strength(), b.told(t.signs), b.wished(t.safe))
}

// learn returns what is known with each of some things taken.
func (b bog) learn(all ...taken) known {
	k := known{}
each:
	for _, t := range all {
		g, ok := anything(), true
		for x := range b.bounds(t) {
			if g, ok = g.with(x); !ok {
				continue each
			}
		}
		k[t] = g
	}
	return k
}

// seen returns that all signs are right, and nothing is wished.
func (b bog) seen() taken { return taken{signs: 1<<len(b.Signs) - 1} }

// truths returns by how much numbers differ in all truths, and gives the call up if there is none.
func (b bog) truths() gaps { return b.learn(b.seen()).with(b.seen()) }

// below returns the set of the banks of which one end of the margin on a day is below 0.
func (b bog) below(g gaps, end func(g gaps, s spot) int, day int) (set int) {
	for s := range b.days(day, day) {
		if end(g, s) < 0 {
			set |= 1 << s.bank
		}
	}
	return set
}

// safe returns whether no bank moves up to a day.
func (b bog) safe(day int) int {
	seen, wished := b.seen(), b.seen()
	wished.safe = day + 1
	k := b.learn(seen, wished)
	_, margin := k.with(seen).weakest(b.days(0, day))
	_, can := k[wished]
	switch {
	case margin >= 0:
		return api.BurstAlways
	case can:
		return api.BurstPerhaps
	}
	return api.BurstNever
}

// until returns the last day up to which surely no bank moves, and gives the call up if there is none.
func (b bog) until() int {
	g := b.truths()
	for day := range len(b.Rain) + 1 {
		if _, margin := g.weakest(b.days(day, day)); margin < 0 {
			refuse(day == 0, api.ErrNone)
			return day - 1
		}
	}
	return len(b.Rain)
}

// first returns the bank of which the least margin up to a day is least, and gives the call up if no bank can move.
func (b bog) first(day int) int {
	s, margin := b.truths().weakest(b.days(0, day))
	refuse(margin >= 0, api.ErrNone)
	return s.bank
}

// spare returns how much more can be cut at the foot of a bank, and gives the call up if it can move already. What signs say they say of
// the bank as it was when they were seen: the truths stay the same.
func (b bog) spare(bank int) int {
	_, margin := b.truths().weakest(spots(spot{bank, 0}, spot{bank, len(b.Rain)}))
	refuse(margin < 0, api.ErrNone)
	return margin
}

// clash returns the fewest signs that cannot all be right, and gives the call up if all can.
func (b bog) clash() int {
	clashing := func(yield func(set int) bool) {
		for set := range 1 << len(b.Signs) {
			if len(b.learn(taken{signs: set})) == 0 && !yield(set) {
				return
			}
		}
	}
	set, ok := least(clashing, measure[int]{size})
	refuse(!ok, api.ErrNone)
	return set
}
