package sod

import (
	"iter"
	"math/bits"

	"bogworks/api"
)

// bank is a valid bank, as it is cut.
type bank api.Sod

// needDay gives the call up if a day is none.
func (b bank) needDay(day int) { refuse(!inside(day, 0, len(b.Days)-1), api.ErrRange) }

// needTruth gives the call up if not all counts can be right.
func (b bank) needTruth() { refuse(!b.possible(b.counts()), api.ErrClash) }

// counts returns the counts of the bank.
func (b bank) counts() counted { return counted{b.Logs} }

// costs yields all costs that the spits can have.
func (b bank) costs() iter.Seq[costs] {
	return func(yield func(c costs) bool) {
		var dig func(c costs) bool
		dig = func(c costs) bool {
			if c.spits == len(b.Spits) {
				return yield(c)
			}
			spit := b.Spits[c.spits]
			for each := spit.Cost.Lo; each <= spit.Cost.Hi; each++ {
				if !dig(c.with(spit.Sods, each)) {
					return false
				}
			}
			return true
		}
		dig(costs{})
	}
}

// reach returns how many strokes there can have been by each day. If there can be none by one day, there is no truth with these costs.
func (b bank) reach(c costs, by bounds) (r reach) {
	s := strokes{}
	for day, more := range b.Days {
		s = meet(s.after(more), by.allow(day, c))
		r[day] = s
	}
	// What later days leave of earlier ones: what they can be reached from.
	for day := len(b.Days) - 1; day > 0; day-- {
		r[day-1] = meet(r[day-1], r[day].before(b.Days[day]))
	}
	return r
}

// possible tells whether there is a truth within one of some bounds.
func (b bank) possible(some ...bounds) bool {
	found := false
search:
	for c := range b.costs() {
		for _, by := range some {
			if b.reach(c, by).possible() {
				found = true
				break search
			}
		}
	}
	return found
}

// truths returns how many strokes there can have been by each day, by the costs with which there is a truth.
func (b bank) truths() map[costs]reach {
	all := map[costs]reach{}
	for c := range b.costs() {
		if r := b.reach(c, b.counts()); r.possible() {
			all[c] = r
		}
	}
	return all
}

// by returns from how much to how much is done by a day, where done tells it by the strokes of which there are enough.
func (b bank) by(day int, done func(c costs, enough func(strokes int) bool) int) api.Span {
	return spread(b.truths(), measure[costs, reach]{func(c costs, r reach) api.Span {
		return api.Span{Lo: done(c, r[day].surely), Hi: done(c, r[day].perhaps)}
	}})
}

// cost returns how many strokes a sod of a spit takes.
func (b bank) cost(spit int) api.Span {
	return spread(b.truths(), measure[costs, reach]{func(c costs, r reach) api.Span {
		return api.Span{Lo: c.each[spit], Hi: c.each[spit]}
	}})
}

// done returns the days by which all spits can be finished first.
func (b bank) done() api.Span {
	return spread(b.truths(), measure[costs, reach]{func(c costs, r reach) api.Span {
		return api.Span{
			Lo: r.first(len(b.Days), c.all(), strokes.perhaps),
			Hi: r.first(len(b.Days), c.all(), strokes.surely),
		}
	}})
}

// left returns how many strokes are needed after a day.
func (b bank) left(day int) api.Span {
	return spread(b.truths(), measure[costs, reach]{func(c costs, r reach) api.Span { return r[day].left(c.all()) }})
}

// fits returns whether the number of sods that are cut by a day is within a span.
func (b bank) fits(day int, sods api.Span) int {
	suppose := func(from, to int) bounds {
		return supposed{b.counts(), api.SodLog{Day: day, Sods: api.Span{Lo: from, Hi: to}}}
	}
	if !b.possible(suppose(sods.Lo, sods.Hi)) {
		return api.SodNever
	}
	// Either of these spans can be without a number; then no strokes lie within it.
	if !b.possible(suppose(0, sods.Lo-1), suppose(sods.Hi+1, api.SodCount)) {
		return api.SodAlways
	}
	return api.SodPerhaps
}

// clash returns the set of the fewest counts that cannot all be right, of several the least number.
func (b bank) clash() int {
	clash, few := 0, len(b.Logs)+1
	for set := range 1 << len(b.Logs) {
		n := bits.OnesCount(uint(set))
		if n < few && !b.possible(b.counts().only(set)) {
			clash, few = set, n
		}
	}
	refuse(few > len(b.Logs), api.ErrNone)
	return clash
}
