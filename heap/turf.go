package heap

import (
	"iter"

	"bogworks/api"
)

// turf is a heap, and the looks at it.
type turf struct {
	api.HeapTurf
	looks []api.HeapLook
}

// course is how wet a heap is in the evening of each day. Behind the last day there are zeros.
type course [api.HeapDays]int

// evenings is how wet a heap can be in the evening of each day.
type evenings [api.HeapDays]api.Span

// turfs returns heaps, each with those of some looks that are looks at it.
func turfs(heaps []api.HeapTurf, looks []api.HeapLook) []turf {
	var list []turf
	for i, h := range heaps {
		t := turf{HeapTurf: h}
		for _, l := range looks {
			if l.Heap == i {
				t.looks = append(t.looks, l)
			}
		}
		list = append(list, t)
	}
	return list
}

// bad tells whether the heap is not valid.
func (t turf) bad() bool {
	// The difference comes last: it is exact only of ends that are not too far apart.
	return !inside(t.Place, api.HeapHollow, api.HeapHill) || !within(t.Wet, 0, api.HeapWet) || t.Wet.Hi-t.Wet.Lo > api.HeapDoubt
}

// courses yields how wet the heap is by some weather, once for each wetness that it can have at first.
func (t turf) courses(days []weather) iter.Seq[course] {
	return func(yield func(c course) bool) {
		for wet := t.Wet.Lo; wet <= t.Wet.Hi; wet++ {
			var c course
			now := wet
			for day, w := range days {
				now = w.evening(t.Place, now)
				c[day] = now
			}
			if !yield(c) {
				return
			}
		}
	}
}

// suits tells whether all looks at the heap are right.
func (t turf) suits(c course) bool {
	for _, l := range t.looks {
		if !inside(c[l.Day], l.Shows.Lo, l.Shows.Hi) {
			return false
		}
	}
	return true
}

// right yields the courses by some weather in which all looks at the heap are right.
func (t turf) right(days []weather) iter.Seq[course] { return keep(t.courses(days), t.suits) }

// possible tells whether all looks at the heap can be right by some weather.
func (t turf) possible(days []weather) bool {
	for range t.right(days) {
		return true
	}
	return false
}

// evenings returns how wet the heap can be by some weather. All looks at it have to be possible by that.
func (t turf) evenings(days []weather) (e evenings) {
	for day := range days {
		e[day] = join()
	}
	for c := range t.right(days) {
		for day := range days {
			e[day] = join(e[day], one(c[day]))
		}
	}
	return e
}
