package road

import (
	"slices"

	"bogworks/api"
)

// known is what can become of each part, by each haul with which there is a truth.
type known map[haul][][]fate

// truths returns what all truths leave, and gives the call up if there is none.
func (g ground) truths() known {
	k := known{}
	impossible := func(fates []fate) bool { return len(fates) == 0 }
	for h := range g.hauls() {
		var parts [][]fate
		for part := range g.parts {
			parts = append(parts, slices.Collect(g.fates(part, h)))
		}
		if !slices.ContainsFunc(parts, impossible) {
			k[h] = parts
		}
	}
	refuse(len(k) == 0, api.ErrClash)
	return k
}

// spread returns the span from the least to the greatest number that is measured of a part.
func (k known) spread(part int, measure func(f fate) int) api.Span {
	wide := join()
	for _, parts := range k {
		for _, f := range parts[part] {
			wide = join(wide, one(measure(f)))
		}
	}
	return wide
}

// always tells whether each part suits in each truth.
func (k known) always(suits func(f fate) bool) bool {
	not := func(f fate) bool { return !suits(f) }
	for _, parts := range k {
		for _, fates := range parts {
			if slices.ContainsFunc(fates, not) {
				return false
			}
		}
	}
	return true
}

// perhaps tells whether there is a truth in which each part suits. By one haul what becomes of a part does not depend on
// the others: so it is enough that each of them can suit.
func (k known) perhaps(suits func(f fate) bool) bool {
	never := func(fates []fate) bool { return !slices.ContainsFunc(fates, suits) }
	for _, parts := range k {
		if !slices.ContainsFunc(parts, never) {
			return true
		}
	}
	return false
}

// bears returns whether the road bears a load.
func (k known) bears(load int) int {
	bears := func(f fate) bool { return f.bears(load) }
	switch {
	case k.always(bears):
		return api.RoadAlways
	case k.perhaps(bears):
		return api.RoadPerhaps
	}
	return api.RoadNever
}

// most returns the greatest load that the road surely bears, and gives the call up if there is none.
func (k known) most() int {
	load, ok := first(numbers(api.RoadLoad, 0), wish[int]{func(load int) bool {
		return k.always(func(f fate) bool { return f.bears(load) })
	}})
	refuse(!ok, api.ErrNone)
	return load
}

// rest returns after how few days of rest the road surely bears a load, and gives the call up if it is not so after RoadDays.
func (k known) rest(load int) int {
	days, ok := first(numbers(0, api.RoadDays), wish[int]{func(days int) bool {
		return k.always(func(f fate) bool { return f.rested(days).bears(load) })
	}})
	refuse(!ok, api.ErrNone)
	return days
}

// below returns the set of the events after which the road surely is below the water somewhere, and of those after which it
// perhaps is.
func (g ground) below() (surely, perhaps int) {
	k := g.truths()
	for i := range g.events {
		above := func(f fate) bool { return f.heights[i] >= 0 }
		if !k.perhaps(above) {
			surely |= 1 << i
		}
		if !k.always(above) {
			perhaps |= 1 << i
		}
	}
	return surely, perhaps
}

// weak returns the part that can be lowest after all events.
func (g ground) weak() int {
	k := g.truths()
	var ends []api.Span
	for part := range g.parts {
		ends = append(ends, k.spread(part, func(f fate) int { return f.height }))
	}
	lowest := join(ends...).Lo
	return slices.IndexFunc(ends, func(end api.Span) bool { return end.Lo == lowest })
}
