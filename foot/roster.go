package foot

import "bogworks/api"

// roster is how many steps there are on each day by the plans of the first heaps, and the first of the heaps that are left.
type roster struct {
	steps [api.FootDays]int
	next  int
}

// with returns the roster with the plan of the next heap.
func (r roster) with(p plan) roster {
	for _, day := range p {
		if day != undone {
			r.steps[day]++
		}
	}
	r.next++
	return r
}

// full tells whether there are too few men for a whole plan of the next heap.
func (r roster) full(p plan, men int) bool {
	for _, day := range p {
		if r.steps[day] >= men {
			return true
		}
	}
	return false
}

// harvest is right plans of heaps that are left, and how many sods they clamp.
type harvest struct {
	sods  int
	plans []api.FootPlan
}

// after returns the harvest with the plan of the heap before, and the sods that this one clamps.
func (h harvest) after(p plan, sods int) harvest {
	plans := make([]api.FootPlan, len(h.plans)+1)
	plans[0] = api.FootPlan(p)
	copy(plans[1:], h.plans)
	return harvest{sum(sods, h.sods), plans}
}

// most returns the first right plans that clamp the most sods. A plan that is not whole clamps none and comes after that
// without steps, which needs no men; so a heap has either this one or a whole one.
func (w work) most() harvest {
	known := map[roster]harvest{}
	var reap func(r roster) harvest
	reap = func(r roster) harvest {
		if r.next == len(w.Heaps) {
			return harvest{}
		}
		if h, ok := known[r]; ok {
			return h
		}
		most := reap(r.with(noSteps())).after(noSteps(), 0)
		all := w.left(r)
	search:
		for p := range w.whole() {
			switch {
			case most.sods == all:
				// No later plan can be better than this, and the first one is meant.
				break search
			case r.full(p, w.Men) || !w.kept(w.worst(), r.next, p):
				continue
			}
			h := reap(r.with(p)).after(p, w.Heaps[r.next].Sods)
			if h.sods > most.sods {
				most = h
			}
		}
		known[r] = most
		return most
	}
	return reap(roster{})
}

// left returns how many sods the heaps have that are left.
func (w work) left(r roster) int {
	var sods []int
	for _, h := range w.Heaps[r.next:] {
		sods = append(sods, h.Sods)
	}
	return sum(sods...)
}

// men returns how many men are enough to clamp as many sods as can be, and how many these are.
func (w work) men() (men, sods int) {
	sods = w.with(api.FootHeaps).most().sods
	for w.with(men).most().sods < sods {
		men++
	}
	return men, sods
}

// with returns the work with so many men.
func (w work) with(men int) work {
	w.Men = men
	return w
}

// sum returns how many sods some numbers of them are together.
func sum(sods ...int) int {
	all := 0
	for _, n := range sods {
		all += n
	}
	return all
}
