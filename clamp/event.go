package clamp

import "bogworks/api"

// event is what happened to a clamp.
type event interface {
	// whose returns the clamp.
	whose() int
	// forward returns how many sods the clamp can have after the event, by what it can have had before it, some of which lets the event
	// be so.
	forward(before sods) sods
	// back returns how many sods the clamp can have had before the event, by what it can have after it.
	back(after sods) sods
}

// note is how many sods of a clamp an event tells of.
type note struct {
	sods
	clamp int
}

// sale is that so many sods were taken off.
type sale struct{ note }

// count is that so many sods were counted.
type count struct{ note }

// eventsOf returns events that were given.
func eventsOf(given []api.ClampEvent) []event {
	var list []event
	for _, e := range given {
		list = append(list, read(e))
	}
	return list
}

// read returns what an event of valid clamps is.
func read(e api.ClampEvent) event {
	n := note{sods{e.Sods}, e.Clamp}
	if e.Kind == api.ClampSale {
		return sale{n}
	}
	return count{n}
}

func (n note) whose() int { return n.clamp }

func (s sale) forward(before sods) sods { return before.minus(s.sods) }

func (s sale) back(after sods) sods {
	if after.none() {
		return after
	}
	return after.plus(s.sods)
}

func (c count) forward(before sods) sods { return before.meet(c.sods) }

func (c count) back(after sods) sods { return after.meet(c.sods) }
