package road

import (
	"iter"
	"slices"

	"bogworks/api"
)

// ground is a valid road.
type ground struct {
	parts  []part
	events []event
}

// needPart gives the call up if a part is none.
func (g ground) needPart(part int) { refuse(!inside(part, 0, len(g.parts)-1), api.ErrRange) }

// needEvent gives the call up if an event is none.
func (g ground) needEvent(event int) { refuse(!inside(event, 0, len(g.events)-1), api.ErrRange) }

// haul is how heavy the loads of the first events are, and which event is next. The load of an event that is no pass is 0.
type haul struct {
	loads [api.RoadEvents]int
	next  int
}

// with returns the haul with the load of the next event.
func (h haul) with(load int) haul {
	h.loads[h.next] = load
	h.next++
	return h
}

// hauls yields how heavy the loads of all events can be, looking at no look.
func (g ground) hauls() iter.Seq[haul] {
	return func(yield func(h haul) bool) {
		var carry func(h haul) bool
		carry = func(h haul) bool {
			if h.next == len(g.events) {
				return yield(h)
			}
			heavy := g.events[h.next].loads()
			for load := heavy.Lo; load <= heavy.Hi; load++ {
				if !carry(h.with(load)) {
					return false
				}
			}
			return true
		}
		carry(haul{})
	}
}

// fate is a part after all events, and how high it was after each of them. Behind the last event there are zeros.
type fate struct {
	piece
	heights [api.RoadEvents]int
}

// fate returns what becomes of a part that was so at first, and whether all looks at it are right then.
func (g ground) fate(part int, x piece, h haul) (f fate, ok bool) {
	for i, e := range g.events {
		x = e.after(x, h.loads[i])
		if !e.right(part, x) {
			return fate{}, false
		}
		f.heights[i] = x.height
	}
	f.piece = x
	return f, true
}

// fates yields what can become of a part, with all looks at it right.
func (g ground) fates(part int, h haul) iter.Seq[fate] {
	return func(yield func(f fate) bool) {
		for x := range g.parts[part].pieces {
			if f, ok := g.fate(part, x, h); ok && !yield(f) {
				return
			}
		}
	}
}

// can tells whether all looks at a part can be right.
func (g ground) can(part int, h haul) bool {
	for range g.fates(part, h) {
		return true
	}
	return false
}

// possible tells whether there is a truth.
func (g ground) possible() bool {
	found := false
search:
	for h := range g.hauls() {
		for part := range g.parts {
			if !g.can(part, h) {
				continue search
			}
		}
		found = true
		break search
	}
	return found
}

// looks returns the set of the events that are looks.
func (g ground) looks() int {
	set := 0
	for i, e := range g.events {
		if _, ok := e.(look); ok {
			set |= 1 << i
		}
	}
	return set
}

// without returns the road without the events that are in a set.
func (g ground) without(out int) ground {
	events := make([]event, len(g.events))
	copy(events, g.events)
	for i := len(events) - 1; i >= 0; i-- {
		if out>>i&1 == 1 {
			events = slices.Delete(events, i, i+1)
		}
	}
	g.events = events
	return g
}

// clash returns the fewest looks that cannot all be right, and gives the call up if all can.
func (g ground) clash() int {
	refuse(g.possible(), api.ErrNone)
	looks := g.looks()
	set, _ := first(subsets(looks), wish[int]{func(only int) bool { return !g.without(looks &^ only).possible() }})
	return set
}
