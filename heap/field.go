package heap

import (
	"iter"
	"slices"

	"bogworks/api"
)

// field is valid heaps that lie in the same rain.
type field api.Heap

// rains is how much it rained on each day. Behind the last day there are zeros.
type rains [api.HeapDays]int

// spell is a heap, and how much it rained on it.
type spell struct {
	heap int
	fell rains
}

// known is how wet each heap can be by each rain with which there is a truth.
type known map[spell]evenings

// needHeap gives the call up if a heap is none.
func (f field) needHeap(heap int) { refuse(!inside(heap, 0, len(f.Heaps)-1), api.ErrRange) }

// needDay gives the call up if a day is none.
func (f field) needDay(day int) { refuse(!inside(day, 0, len(f.Rains)-1), api.ErrRange) }

// heaps returns the numbers of all heaps.
func (f field) heaps() []int {
	var list []int
	for i := range f.Heaps {
		list = append(list, i)
	}
	return list
}

// rains yields all that it can have rained, looking at no look.
func (f field) rains() iter.Seq[rains] {
	return func(yield func(fell rains) bool) {
		var fall func(day int, fell rains) bool
		fall = func(day int, fell rains) bool {
			if day == len(f.Rains) {
				return yield(fell)
			}
			for rain := f.Rains[day].Lo; rain <= f.Rains[day].Hi; rain++ {
				fell[day] = rain
				if !fall(day+1, fell) {
					return false
				}
			}
			return true
		}
		fall(0, rains{})
	}
}

// weather returns the weather of a day, by how much it rains.
func (f field) weather(rain int) weather {
	if rain > 0 {
		return rainy{rain}
	}
	return fair{dries: f.Dries}
}

// days returns the weather of all days.
func (f field) days(fell rains) []weather {
	list := make([]weather, len(f.Rains))
	for day := range list {
		list[day] = f.weather(fell[day])
	}
	return list
}

// possible tells whether there is a truth with some looks.
func (f field) possible(looks []api.HeapLook) bool {
	heaps := turfs(f.Heaps, looks)
	found := false
search:
	for fell := range f.rains() {
		days := f.days(fell)
		for _, t := range heaps {
			if !t.possible(days) {
				continue search
			}
		}
		found = true
		break search
	}
	return found
}

// without returns the looks that are not in a set.
func (f field) without(out int) []api.HeapLook {
	looks := make([]api.HeapLook, len(f.Looks))
	copy(looks, f.Looks)
	for i := len(looks) - 1; i >= 0; i-- {
		if out>>i&1 == 1 {
			looks = slices.Delete(looks, i, i+1)
		}
	}
	return looks
}

// truths returns what all truths leave, and gives the call up if there is none.
func (f field) truths() known {
	all := known{}
	heaps := turfs(f.Heaps, f.Looks)
	for fell := range f.rains() {
		days := f.days(fell)
		impossible := func(t turf) bool { return !t.possible(days) }
		if slices.ContainsFunc(heaps, impossible) {
			continue
		}
		for i, t := range heaps {
			all[spell{i, fell}] = t.evenings(days)
		}
	}
	refuse(len(all) == 0, api.ErrClash)
	return all
}

// wet returns how wet a heap can be in the evening of a day.
func (k known) wet(heap, day int) api.Span {
	return spread(k, measure[spell, evenings]{func(s spell, e evenings) api.Span {
		if s.heap != heap {
			return join()
		}
		return e[day]
	}})
}

// rain returns how much it can have rained on a day.
func (k known) rain(day int) api.Span {
	return spread(k, measure[spell, evenings]{func(s spell, _ evenings) api.Span { return one(s.fell[day]) }})
}

// dry returns whether a heap of some wetness is dry.
func (f field) dry(wet api.Span) int {
	switch {
	case wet.Hi <= f.Limit:
		return api.HeapAlways
	case wet.Lo > f.Limit:
		return api.HeapNever
	}
	return api.HeapPerhaps
}

// when returns the first day in whose evening heaps surely are dry, and gives the call up if there is none.
func (f field) when(heaps ...int) int {
	k := f.truths()
	for day := range f.Rains {
		notSurely := func(heap int) bool { return f.dry(k.wet(heap, day)) != api.HeapAlways }
		if !slices.ContainsFunc(heaps, notSurely) {
			return day
		}
	}
	panic(refusal(api.ErrNone))
}

// doubt returns the heap whose least and greatest wetness in the evening of a day are farthest apart, and how far.
func (f field) doubt(day int) (heap, wide int) {
	k := f.truths()
	for i := range f.Heaps {
		wet := k.wet(i, day)
		if wet.Hi-wet.Lo > wide {
			heap, wide = i, wet.Hi-wet.Lo
		}
	}
	return heap, wide
}
