package foot

import (
	"iter"

	"bogworks/api"
)

// work is valid work on some heaps.
type work api.Foot

// needHeap gives the call up if a heap is none.
func (w work) needHeap(heap int) { refuse(!inside(heap, 0, len(w.Heaps)-1), api.ErrRange) }

// needOrder gives the call up if a plan is not in order.
func (w work) needOrder(p plan) { refuse(!p.inOrder(len(w.Rain)), api.ErrRange) }

// needDay gives the call up if a number is neither a day nor the one after the last day.
func (w work) needDay(day int) { refuse(!inside(day, 0, len(w.Rain)), api.ErrRange) }

// needPlans gives the call up unless there is a plan for each heap, in order or not, by days that there are.
func (w work) needPlans(plans []api.FootPlan) {
	refuse(len(plans) != len(w.Heaps), api.ErrRange)
	for _, p := range plans {
		for _, day := range p {
			refuse(day != undone && !isDay(day, len(w.Rain)), api.ErrRange)
		}
	}
}

func (w work) worst() truth { return worst{w} }

func (w work) best() truth { return best{worst{w}} }

// course returns how wet a heap is by a plan in a truth, whether the plan can be kept or not.
func (w work) course(t truth, heap int, p plan) (c course) {
	c[0] = t.start(heap)
	for day := range w.Rain {
		later, dry := wetness.covered, 0
		if steps := p.done(day); steps <= clamping {
			later, dry = wetness.spread, w.Dries[steps]
		}
		c[day+1] = later(c[day], t.rain(day), dry)
	}
	return c
}

// need returns what tells whether a step can be done on a heap.
func (w work) need(step int) func(heap wetness) bool { return wetness(w.Limits[step]).bears }

// kept tells whether a plan can be kept in a truth.
func (w work) kept(t truth, heap int, p plan) bool {
	c := w.course(t, heap, p)
	for step, day := range p {
		if !c.suits(day, w.need(step)) {
			return false
		}
	}
	return true
}

// wet returns how wet a heap can be by a plan at the beginning of a day.
func (w work) wet(heap int, p plan, day int) api.Span {
	return api.Span{Lo: int(w.course(w.best(), heap, p)[day]), Hi: int(w.course(w.worst(), heap, p)[day])}
}

// can returns whether a plan can be kept.
func (w work) can(heap int, p plan) int {
	switch {
	case w.kept(w.worst(), heap, p):
		return api.FootAlways
	case w.kept(w.best(), heap, p):
		return api.FootPerhaps
	}
	return api.FootNever
}

// whole yields all whole plans in their order.
func (w work) whole() iter.Seq[plan] {
	return func(yield func(p plan) bool) {
		days := len(w.Rain)
		for foot := range days {
			for turn := foot + 1; turn < days; turn++ {
				for clamp := turn + 1; clamp < days; clamp++ {
					if !yield(plan{foot, turn, clamp}) {
						return
					}
				}
			}
		}
	}
}

// soonest returns the whole plan of a heap that can be kept in a truth and by which it is clamped first, if there is one.
func (w work) soonest(t truth, heap int) (p plan, ok bool) {
	return first(w.whole(), wish[plan]{
		suits:  func(p plan) bool { return w.kept(t, heap, p) },
		better: func(p, q plan) bool { return p[clamping] < q[clamping] },
	})
}

// clamped returns the set of the heaps that can be clamped in a truth.
func (w work) clamped(t truth) int {
	set := 0
	for heap := range w.Heaps {
		if _, ok := w.soonest(t, heap); ok {
			set |= 1 << heap
		}
	}
	return set
}

// broken returns the first step that breaks a rule, and the rule, and gives the call up if none does.
func (w work) broken(plans []api.FootPlan) (heap, step, rule int) {
	var r roster
	for heap, p := range plans {
		for step := range p {
			if rule := w.rule(r, plan(p), step); rule != 0 {
				return heap, step, rule
			}
		}
		r = r.with(plan(p))
	}
	panic(refusal(api.ErrNone))
}

// rule returns the first rule that a step of the heap that is next breaks, 0 if it breaks none.
func (w work) rule(r roster, p plan, step int) int {
	day, far := p[step], p.upTo(step)
	switch {
	case day == undone:
		return 0
	case !far.inOrder(len(w.Rain)):
		return api.FootOrder
	case !w.course(w.worst(), r.next, far).suits(day, w.need(step)):
		return api.FootWet
	case r.steps[day] >= w.Men:
		return api.FootMen
	}
	return 0
}
