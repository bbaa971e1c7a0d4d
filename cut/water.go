package cut

import (
	"iter"
	"slices"

	"bogworks/api"
)

// water is the water of a valid cut.
type water api.Cut

// taken is how much leaks away each day, and the set of the looks that are taken to be right.
type taken struct{ leak, looks int }

// course is how deep the water can be at the beginning of each day. Behind the last day there are zeros.
type course [api.CutDays + 1]depths

// needDay gives the call up if a day is none.
func (w water) needDay(day int) { refuse(!inside(day, 0, len(w.Rain)), api.ErrRange) }

// vessel returns the boat with a number, and gives the call up if there is none.
func (w water) vessel(number int) boat {
	refuse(!inside(number, 0, len(w.Boats)-1), api.ErrRange)
	return boat(w.Boats[number])
}

// days yields the days, from one on.
func (w water) days(from int) iter.Seq[int] { return numbers(from, len(w.Rain)) }

// leaks yields how much can leak away each day, looking at no look.
func (w water) leaks() iter.Seq[int] { return numbers(w.Leak.Lo, w.Leak.Hi) }

// only returns the looks that are in a set.
func (w water) only(set int) []api.CutLook {
	looks := make([]api.CutLook, len(w.Looks))
	copy(looks, w.Looks)
	for i := len(looks) - 1; i >= 0; i-- {
		if set>>i&1 == 0 {
			looks = slices.Delete(looks, i, i+1)
		}
	}
	return looks
}

// events returns what befalls the water, by days: looks at the beginning of a day, then what changes the depth until the next one.
func (w water) events(t taken) [][]event {
	days := make([][]event, len(w.Rain)+1)
	for _, l := range w.only(t.looks) {
		days[l.Day] = append(days[l.Day], look{depths{l.Depth}})
	}
	for day, rain := range w.Rain {
		days[day] = append(days[day], flow{rain, t.leak, w.Most})
	}
	return days
}

// course returns how deep the water can be at the beginning of each day, and whether it can be so at all. First it goes on from
// day to day, so that each look tells of later days, then back, so that it tells of earlier ones.
func (w water) course(t taken) (all course, ok bool) {
	days := w.events(t)
	now := depths{w.Depth}
	for day, events := range days {
		all[day] = now
		for _, e := range events {
			now = e.after(now)
			if now.none() {
				return course{}, false
			}
		}
	}
	for day, events := range slices.Backward(days) {
		for _, e := range slices.Backward(events) {
			now = e.before(now)
		}
		now = now.meet(all[day])
		all[day] = now
	}
	return all, true
}

// learn returns what is known with each of some sets of looks.
func (w water) learn(sets ...int) known {
	k := known{}
	for _, set := range sets {
		for leak := range w.leaks() {
			t := taken{leak, set}
			if c, ok := w.course(t); ok {
				k[t] = c
			}
		}
	}
	return k
}

// truths returns what all truths leave, and gives the call up if there is none.
func (w water) truths() known {
	k := w.learn(1<<len(w.Looks) - 1)
	refuse(len(k) == 0, api.ErrClash)
	return k
}

// until returns the first day, from one on, on which the water surely is as deep as is needed, and gives the call up if there is
// none.
func (w water) until(need api.Span, day int) int {
	k := w.truths()
	for next := range w.days(day) {
		if k.at(next).surely(need) {
			return next
		}
	}
	panic(refusal(api.ErrNone))
}

// together returns with how many loads all boats together surely float on a day.
func (w water) together(day int) int {
	d := w.truths().at(day)
	loads := 0
	for _, b := range w.Boats {
		loads += max(0, boat(b).most(d.surely))
	}
	return loads
}

// clash returns the fewest looks that cannot all be right, and gives the call up if all can.
func (w water) clash() int {
	sets := subsets(len(w.Looks))
	k := w.learn(sets...)
search:
	for _, set := range sets {
		for leak := range w.leaks() {
			if _, ok := k[taken{leak, set}]; ok {
				continue search
			}
		}
		return set
	}
	panic(refusal(api.ErrNone))
}
