package drain

import (
	"iter"
	"math/bits"
	"slices"

	"bogworks/api"
)

// bog is valid drains, with all that was given of them.
type bog api.Drain

// levels is how high each bank lies. Behind the last bank there are zeros.
type levels struct{ of [api.DrainBanks]int }

// needBank gives the call up if a bank is none.
func (b bog) needBank(bank int) { refuse(!inside(bank, 0, len(b.Banks)-1), api.ErrRange) }

// needPair gives the call up unless two banks are such and different.
func (b bog) needPair(from, to int) { refuse(!pair(from, to, len(b.Banks)), api.ErrRange) }

// dug returns all drains that there are.
func (b bog) dug() dug { return dug{b.Drains} }

// levels yields how high all banks can lie, whatever was seen.
func (b bog) levels() iter.Seq[levels] {
	return func(yield func(l levels) bool) {
		var l levels
		for bank, x := range b.Banks {
			l.of[bank] = x.Level.Lo
		}
		for yield(l) && b.raise(&l) {
		}
	}
}

// raise goes on to the next levels, as one counts on, and tells whether there are any.
func (b bog) raise(l *levels) bool {
	for bank, x := range b.Banks {
		if l.of[bank] < x.Level.Hi {
			l.of[bank]++
			return true
		}
		l.of[bank] = x.Level.Lo
	}
	return false
}

// course returns where water goes by some drains.
func (b bog) course(by drains, l levels) course {
	c := course{to: make([]int, len(b.Banks)), banks: b.Banks}
	for bank := range b.Banks {
		c.to[bank] = b.lowest(by, l, bank)
	}
	return c
}

// lowest returns the lowest bank that is lower than a bank and joined with it, or how many banks there are if none is.
func (b bog) lowest(by drains, l levels, bank int) int {
	found, level := len(b.Banks), l.of[bank]
	for to := range b.Banks {
		if l.of[to] < level && by.joined(bank, to) {
			found, level = to, l.of[to]
		}
	}
	return found
}

// learn returns what is known if the things seen that are in a set are right.
func (b bog) learn(seen int) known {
	k := known{}
each:
	for l := range b.levels() {
		c := b.course(b.dug(), l)
		for n, s := range b.Seen {
			if has(seen, n) && c.next(s.A) != s.B {
				continue each
			}
		}
		k[l] = c
	}
	return k
}

// truths returns what is known by all that was seen, and gives the call up if there is no truth.
func (b bog) truths() known {
	k := b.learn(1<<len(b.Seen) - 1)
	refuse(len(k) == 0, api.ErrClash)
	return k
}

// breaks returns the set of the rights that surely are broken, and that of those that perhaps are.
func (b bog) breaks() (surely, perhaps int) {
	k := b.truths()
	for n, r := range b.Rights {
		water := k.straight(r.Of, r.To)
		if water.Lo > r.Most {
			surely |= 1 << n
		}
		if water.Hi > r.Most {
			perhaps |= 1 << n
		}
	}
	return surely, perhaps
}

// keeps returns whether all rights are kept with some drains, whatever is true.
func (b bog) keeps(k known, by drains) int {
	always, perhaps := true, false
	for l := range k {
		c := b.course(by, l)
		always = always && !slices.ContainsFunc(b.Rights, c.canBreak)
		perhaps = perhaps || !slices.ContainsFunc(b.Rights, c.mustBreak)
	}
	switch {
	case always:
		return api.DrainAlways
	case perhaps:
		return api.DrainPerhaps
	}
	return api.DrainNever
}

// dig returns whether one drain more may be dug, and gives the call up if there are too many.
func (b bog) dig(w api.DrainWay) int {
	k, many := b.truths(), len(b.Drains)
	refuse(many == api.DrainDrains, api.ErrFull)
	ways := make([]api.DrainWay, many+1)
	copy(ways, b.Drains)
	ways[many] = w
	return b.keeps(k, dug{ways})
}

// stop returns how few drains must be stopped so that all rights are kept, and which.
func (b bog) stop() (many, stopped int) {
	k := b.truths()
	// There is such a set: without any drains no water goes anywhere.
	stopped, _ = first(subsets(len(b.Drains)), wish[int]{func(set int) bool {
		return b.keeps(k, rest{b.dug(), set}) == api.DrainAlways
	}})
	return bits.OnesCount(uint(stopped)), stopped
}

// clash returns the fewest things seen that cannot all be right, and gives the call up if all can.
func (b bog) clash() int {
	seen, ok := first(subsets(len(b.Seen)), wish[int]{func(set int) bool { return len(b.learn(set)) == 0 }})
	refuse(!ok, api.ErrNone)
	return seen
}
