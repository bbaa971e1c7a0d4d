package clamp

import (
	"iter"
	"slices"

	"bogworks/api"
)

// yard is valid clamps, with what happened to them.
type yard struct {
	piles  []api.ClampPile
	pack   sods
	events []event
}

// stock is how many sods each clamp has at some time. Behind the last clamp there are zeros.
type stock [api.ClampPiles]sods

// built is how many cubic feet each clamp was built, and how many sods lie in one. Behind the last clamp there are zeros.
type built struct {
	feet [api.ClampPiles]int
	pack int
}

// first returns how many sods a clamp had at first.
func (b built) first(clamp int) int { return product(b.feet[clamp], b.pack) }

// needClamp gives the call up if a clamp is none.
func (y yard) needClamp(clamp int) { refuse(!inside(clamp, 0, len(y.piles)-1), api.ErrRange) }

// clamps returns the set of all clamps.
func (y yard) clamps() int { return 1<<len(y.piles) - 1 }

// sizes yields how many cubic feet a clamp can have been built.
func sizes(p api.ClampPile) iter.Seq[int] {
	return func(yield func(feet int) bool) {
		for long := p.Long.Lo; long <= p.Long.Hi; long++ {
			for wide := p.Wide.Lo; wide <= p.Wide.Hi; wide++ {
				for high := p.High.Lo; high <= p.High.Hi; high++ {
					if !yield(product(long, wide, high)) {
						return
					}
				}
			}
		}
	}
}

// before returns how many sods each clamp can have had at first so that all its events can be so, whatever its size.
func (y yard) before() (s stock) {
	for clamp := range y.piles {
		s[clamp] = between(0, api.ClampSods)
	}
	for _, e := range slices.Backward(y.events) {
		clamp := e.whose()
		s[clamp] = e.back(s[clamp])
	}
	return s
}

// after returns how many sods each clamp can have after all events if they were built in a way with which there is a truth.
func (y yard) after(b built) (s stock) {
	for clamp := range y.piles {
		s[clamp] = one(b.first(clamp))
	}
	for _, e := range y.events {
		clamp := e.whose()
		s[clamp] = e.forward(s[clamp])
	}
	return s
}

// builds yields all ways in which the clamps can have been built with which there is a truth.
func (y yard) builds() iter.Seq[built] {
	can := y.before()
	return func(yield func(b built) bool) {
		var build func(b built, clamp int) bool
		build = func(b built, clamp int) bool {
			if clamp == len(y.piles) {
				return yield(b)
			}
			for feet := range sizes(y.piles[clamp]) {
				b.feet[clamp] = feet
				if can[clamp].has(b.first(clamp)) && !build(b, clamp+1) {
					return false
				}
			}
			return true
		}
		for pack := range y.pack.each {
			if !build(built{pack: pack}, 0) {
				return
			}
		}
	}
}

// possible tells whether there is a truth. By one pack what a clamp can have had does not depend on the others: so it is enough that each
// of them can have some size.
func (y yard) possible() bool {
	can := y.before()
packs:
	for pack := range y.pack.each {
	clamps:
		for clamp, p := range y.piles {
			for feet := range sizes(p) {
				if can[clamp].has(product(feet, pack)) {
					continue clamps
				}
			}
			continue packs
		}
		return true
	}
	return false
}

// counts returns the set of the events that are counts.
func (y yard) counts() (set int) {
	for i, e := range y.events {
		if _, ok := e.(count); ok {
			set |= 1 << i
		}
	}
	return set
}

// without returns the yard without the events that are in a set.
func (y yard) without(out int) yard {
	events := make([]event, len(y.events))
	copy(events, y.events)
	for i := len(events) - 1; i >= 0; i-- {
		if in(out, i) {
			events = slices.Delete(events, i, i+1)
		}
	}
	y.events = events
	return y
}

// clash returns the fewest counts that cannot all be right, and gives the call up if all can.
func (y yard) clash() int {
	refuse(y.possible(), api.ErrNone)
	counts := y.counts()
	set, _ := first(subsets(counts), wish[int]{func(only int) bool { return !y.without(counts &^ only).possible() }})
	return set
}
