package heap_test

import (
	"testing"

	"bogworks/api"
	"bogworks/heap"
)

// heapsH, heapsK and heapsN are those of the document's examples.
func heapsH() api.Heap {
	return api.Heap{
		Heaps: []api.HeapTurf{turf(api.HeapHollow, 30, 31), turf(api.HeapHill, 30, 30)},
		Rains: []api.Span{span(0, 0), span(0, 1), span(0, 0)},
		Dries: [3]int{3, 5, 8},
		Limit: 20,
	}
}

func heapsK() api.Heap { return looked(heapsH(), look(1, 1, 20, 25)) }

func heapsN() api.Heap { return looked(heapsK(), look(0, 2, 21, 22)) }

// one returns one heap on a slope, by some rains, where heaps dry by 1, 2 and 3 a day; it is dry at 10.
func one(lo, hi int, rains ...api.Span) api.Heap {
	return api.Heap{Heaps: []api.HeapTurf{turf(api.HeapSlope, lo, hi)}, Rains: rains, Dries: [3]int{1, 2, 3}, Limit: 10}
}

// greatest returns the greatest heaps that are valid, without looks.
func greatest() api.Heap {
	h := api.Heap{Dries: [3]int{0, 10, 20}, Limit: 50}
	for place := range api.HeapHeaps {
		h.Heaps = append(h.Heaps, turf(place, 45, 50))
	}
	for range api.HeapDays {
		h.Rains = append(h.Rains, span(0, 3))
	}
	return h
}

// apart has a heap of which it is known that it rained on just one of two days, but not on which.
func apart() api.Heap {
	return looked(one(50, 50, span(0, 1), span(0, 1)), look(0, 1, 49, 49))
}

// P3.1
func TestWet(t *testing.T) {
	for i, x := range []struct {
		h         api.Heap
		heap, day int
		want      api.Span
	}{
		{heapsH(), 0, 0, span(27, 28)}, {heapsH(), 0, 1, span(24, 29)}, {heapsH(), 0, 2, span(21, 26)},
		{heapsH(), 1, 0, span(22, 22)}, {heapsH(), 1, 1, span(14, 23)}, {heapsH(), 1, 2, span(6, 15)}, {heapsK(), 0, 2, span(25, 26)},
		// A look at one heap tells of the others, by the rain; and a later one of earlier days.
		{heapsK(), 0, 1, span(28, 29)}, {heapsK(), 1, 1, span(23, 23)}, {heapsK(), 1, 2, span(15, 15)},
		{looked(heapsH(), look(0, 2, 26, 30)), 0, 0, span(28, 28)}, {looked(heapsH(), look(0, 2, 26, 30)), 1, 1, span(23, 23)},
		// It is not above HeapWet, nor below 0, and what is above or below is lost.
		{one(95, 100, span(3, 6)), 0, 0, span(98, 100)}, {one(95, 100, span(10, 10), span(0, 0)), 0, 1, span(98, 98)}, {one(100, 100, span(1, 1)), 0, 0, span(100, 100)},
		{one(0, 5, span(0, 0)), 0, 0, span(0, 3)}, {one(0, 1, span(0, 0), span(4, 4)), 0, 1, span(4, 4)}, {one(0, 0, span(0, 0)), 0, 0, span(0, 0)},
		// The look after what was lost does not tell how wet it was at first; before it does.
		{looked(one(0, 5, span(0, 0), span(0, 0), span(0, 0)), look(0, 1, 0, 0)), 0, 0, span(0, 2)}, {looked(one(95, 100, span(5, 5)), look(0, 0, 100, 100)), 0, 0, span(100, 100)},
		// On a day with the least rain it does not dry; on one without it does not get wetter.
		{one(50, 50, span(1, 1)), 0, 0, span(51, 51)}, {one(50, 50, span(0, 3)), 0, 0, span(48, 53)}, {one(50, 50, span(7, 10)), 0, 0, span(57, 60)},
		{apart(), 0, 0, span(48, 51)}, {apart(), 0, 1, span(49, 49)},
		{greatest(), 0, 5, span(45, 68)}, {greatest(), 1, 5, span(0, 68)}, {greatest(), 2, 5, span(0, 68)}, {greatest(), 2, 0, span(25, 53)},
	} {
		if w, e := heap.Wet(x.h, x.heap, x.day); w != x.want || e != api.OK {
			t.Error(i, w, e)
		}
	}
}

// P3.1: by its place a heap dries by that of Dries.
func TestPlaces(t *testing.T) {
	for place, want := range []int{40, 31, 30} {
		h := api.Heap{Heaps: []api.HeapTurf{turf(place, 50, 50)}, Rains: []api.Span{span(0, 0)}, Dries: [3]int{10, 19, 20}}
		if w, e := heap.Wet(h, 0, 0); w != span(want, want) || e != api.OK {
			t.Error(place, w, e)
		}
		h.Rains[0] = span(2, 2)
		if w, e := heap.Wet(h, 0, 0); w != span(52, 52) || e != api.OK {
			t.Error(place, w, e)
		}
	}
}

// P3.2
func TestRain(t *testing.T) {
	for i, x := range []struct {
		h    api.Heap
		day  int
		want api.Span
	}{
		{heapsH(), 0, span(0, 0)}, {heapsH(), 1, span(0, 1)}, {heapsK(), 1, span(1, 1)}, {heapsK(), 2, span(0, 0)},
		{looked(heapsH(), look(1, 2, 0, 14)), 1, span(0, 0)}, {looked(heapsH(), look(0, 2, 26, 26)), 1, span(1, 1)},
		{one(50, 50, span(7, 10)), 0, span(7, 10)}, {looked(one(50, 50, span(7, 10)), look(0, 0, 58, 59)), 0, span(8, 9)},
		{looked(one(50, 52, span(7, 10)), look(0, 0, 58, 59)), 0, span(7, 9)}, {looked(one(50, 50, span(0, 3)), look(0, 0, 0, 51)), 0, span(0, 1)},
		// Of turf that is as wet as can be, or as dry, nothing is learnt.
		{looked(one(100, 100, span(1, 4)), look(0, 0, 100, 100)), 0, span(1, 4)}, {looked(one(95, 95, span(1, 4), span(5, 8)), look(0, 1, 100, 100)), 0, span(1, 4)},
		{looked(one(0, 0, span(0, 2)), look(0, 0, 0, 1)), 0, span(0, 1)},
		{apart(), 0, span(0, 1)}, {apart(), 1, span(0, 1)}, {looked(apart(), look(0, 0, 51, 51)), 1, span(0, 0)}, {looked(apart(), look(0, 0, 0, 50)), 1, span(1, 1)},
		{greatest(), 5, span(0, 3)}, {looked(greatest(), look(2, 5, 68, 68)), 0, span(3, 3)}, {looked(greatest(), look(0, 0, 52, 55)), 0, span(2, 3)},
	} {
		if w, e := heap.Rain(x.h, x.day); w != x.want || e != api.OK {
			t.Error(i, w, e)
		}
	}
}

// P3.3
func TestDry(t *testing.T) {
	for i, x := range []struct {
		h         api.Heap
		heap, day int
		want      int
	}{
		{heapsH(), 1, 1, api.HeapPerhaps}, {heapsH(), 1, 2, api.HeapAlways}, {heapsH(), 0, 2, api.HeapNever},
		{heapsH(), 1, 0, api.HeapNever}, {heapsK(), 1, 1, api.HeapNever}, {looked(heapsH(), look(0, 2, 0, 23)), 1, 1, api.HeapAlways},
		// A heap is dry at the limit, and not above.
		{one(12, 12, span(0, 0)), 0, 0, api.HeapAlways}, {one(13, 13, span(0, 0)), 0, 0, api.HeapNever}, {one(12, 13, span(0, 0)), 0, 0, api.HeapPerhaps},
		{one(9, 9, span(1, 1)), 0, 0, api.HeapAlways}, {one(9, 9, span(1, 2)), 0, 0, api.HeapPerhaps}, {one(9, 9, span(2, 4)), 0, 0, api.HeapNever},
		{limited(one(0, 0, span(0, 0)), 0), 0, 0, api.HeapAlways}, {limited(one(3, 3, span(0, 0)), 0), 0, 0, api.HeapNever}, {limited(one(100, 100, span(1, 1)), 100), 0, 0, api.HeapAlways},
		{greatest(), 0, 0, api.HeapPerhaps}, {greatest(), 2, 5, api.HeapPerhaps},
	} {
		if n, e := heap.Dry(x.h, x.heap, x.day); n != x.want || e != api.OK {
			t.Error(i, n, e)
		}
	}
}

// limited returns heaps with another limit.
func limited(h api.Heap, limit int) api.Heap {
	h.Limit = limit
	return h
}

// turns has a heap that surely is dry on the day 1, and wet again on the day 2, and one that surely is dry on all of these days.
func turns() api.Heap {
	h := one(11, 14, span(0, 0), span(0, 0), span(10, 10), span(0, 0))
	h.Heaps = append(h.Heaps, turf(api.HeapHill, 12, 13))
	h.Dries = [3]int{1, 2, 7}
	return h
}

// byTurns has a heap that is dry on the day 0 only, and one that is on the day 2 only.
func byTurns() api.Heap {
	h := one(5, 5, span(1, 1), span(1, 1), span(0, 0))
	h.Heaps = []api.HeapTurf{turf(api.HeapHollow, 2, 2), turf(api.HeapHill, 5, 5)}
	h.Dries = [3]int{0, 2, 5}
	return limited(h, 3)
}

// P3.4
func TestWhen(t *testing.T) {
	for i, x := range []struct {
		h    api.Heap
		heap int
		want int
		e    api.Errno
	}{
		{heapsH(), 1, 2, api.OK}, {heapsH(), 0, 0, api.ErrNone}, {looked(heapsH(), look(0, 2, 0, 23)), 1, 1, api.OK}, {heapsK(), 1, 2, api.OK},
		{one(12, 12, span(0, 0)), 0, 0, api.OK}, {one(12, 13, span(0, 0)), 0, 0, api.ErrNone}, {one(12, 13, span(0, 0), span(0, 0)), 0, 1, api.OK},
		// The first of several days is meant, though it is wet on a later one.
		{turns(), 0, 1, api.OK}, {turns(), 1, 0, api.OK},
		{one(16, 20, span(0, 0), span(0, 0), span(0, 0), span(0, 0), span(0, 0), span(0, 0)), 0, 4, api.OK},
		// It has to be the same day in each truth.
		{one(12, 12, span(0, 1), span(0, 0)), 0, 0, api.ErrNone}, {limited(apart(), 49), 0, 1, api.OK}, {limited(apart(), 48), 0, 0, api.ErrNone},
		{greatest(), 2, 0, api.ErrNone}, {looked(greatest(), look(0, 2, 45, 46), look(0, 5, 50, 52)), 2, 1, api.OK},
		{byTurns(), 0, 0, api.OK}, {byTurns(), 1, 2, api.OK}, {limited(byTurns(), 1), 1, 0, api.ErrNone},
	} {
		if n, e := heap.When(x.h, x.heap); n != x.want || e != x.e {
			t.Error(i, n, e)
		}
	}
}

// P3.4
func TestAll(t *testing.T) {
	for i, x := range []struct {
		h    api.Heap
		want int
		e    api.Errno
	}{
		{heapsH(), 0, api.ErrNone}, {limited(heapsH(), 26), 2, api.OK}, {limited(heapsH(), 28), 0, api.OK}, {limited(heapsH(), 27), 2, api.OK}, {limited(heapsK(), 28), 0, api.OK},
		{one(12, 12, span(0, 0)), 0, api.OK}, {one(12, 13, span(0, 0)), 0, api.ErrNone}, {turns(), 1, api.OK},
		// Each of two is dry on some day, but not both on one day.
		{byTurns(), 0, api.ErrNone}, {limited(byTurns(), 4), 2, api.OK}, {limited(byTurns(), 6), 0, api.OK},
		{greatest(), 0, api.ErrNone}, {looked(greatest(), look(0, 2, 45, 46), look(0, 5, 50, 52)), 1, api.OK},
	} {
		if n, e := heap.All(x.h); n != x.want || e != x.e {
			t.Error(i, n, e)
		}
	}
}

// P3.5
func TestDoubt(t *testing.T) {
	for i, x := range []struct {
		h               api.Heap
		day, heap, wide int
	}{
		{heapsH(), 2, 1, 9}, {heapsK(), 2, 0, 1}, {heapsH(), 0, 0, 1}, {heapsH(), 1, 1, 9},
		// Of several the first one is meant, also if all is known of each.
		{greatest(), 0, 2, 28}, {greatest(), 5, 1, 68}, {one(50, 50, span(0, 0)), 0, 0, 0}, {one(45, 50, span(0, 0)), 0, 0, 5},
		{looked(greatest(), look(1, 5, 68, 68), look(0, 5, 68, 68), look(2, 5, 68, 68)), 0, 0, 0},
		{turns(), 0, 0, 3}, {turns(), 1, 0, 3}, {looked(turns(), look(0, 0, 9, 9)), 0, 1, 1}, {looked(turns(), look(0, 0, 9, 9)), 1, 0, 0},
	} {
		if h, n, e := heap.Doubt(x.h, x.day); h != x.heap || n != x.wide || e != api.OK {
			t.Error(i, h, n, e)
		}
	}
}

// three has three looks of which any two can be right.
func three() api.Heap {
	return looked(one(40, 41, span(1, 2), span(1, 2)), look(0, 0, 42, 42), look(0, 1, 0, 43), look(0, 0, 0, 41), look(0, 1, 43, 43))
}

// P3.6, P4
func TestFalse(t *testing.T) {
	for i, x := range []struct {
		h           api.Heap
		many, looks int
	}{
		{heapsN(), 1, 1}, {heapsK(), 0, 0}, {heapsH(), 0, 0}, {greatest(), 0, 0},
		// The fewest come before the least number, and of several the least number is meant.
		{looked(heapsH(), look(1, 1, 20, 25), look(0, 2, 25, 30), look(0, 2, 21, 22)), 1, 4}, {looked(heapsN(), look(0, 2, 21, 22)), 1, 1},
		{looked(heapsN(), look(1, 1, 20, 25)), 1, 2}, {looked(heapsN(), look(1, 1, 20, 25), look(0, 2, 21, 22)), 2, 5},
		{looked(heapsH(), look(0, 0, 0, 0)), 1, 1}, {looked(heapsH(), look(0, 0, 0, 0), look(0, 0, 27, 28), look(1, 0, 23, 100), look(1, 2, 16, 100), look(1, 1, 0, 13)), 4, 29},
		{looked(heapsH(), look(0, 0, 0, 26), look(0, 0, 29, 100), look(1, 0, 23, 100), look(1, 2, 16, 100), look(1, 1, 0, 13)), 5, 31},
		{three(), 1, 1}, {apart(), 0, 0}, {looked(apart(), look(0, 0, 49, 50)), 1, 2},
	} {
		if n, in, e := heap.False(x.h); n != x.many || in != x.looks || e != api.OK {
			t.Error(i, n, in, e)
		}
	}
}

// P3.7, P4
func TestClash(t *testing.T) {
	for i, x := range []struct {
		h    api.Heap
		want int
		e    api.Errno
	}{
		{heapsN(), 3, api.OK}, {heapsK(), 0, api.ErrNone}, {heapsH(), 0, api.ErrNone}, {greatest(), 0, api.ErrNone},
		// Of several sets the least number is meant; the fewest looks come before that.
		{looked(heapsN(), look(1, 1, 20, 25), look(0, 2, 21, 22)), 3, api.OK}, {looked(heapsH(), look(0, 2, 21, 22), look(0, 2, 0, 100), look(1, 1, 20, 25)), 5, api.OK},
		{looked(heapsN(), look(0, 0, 0, 26)), 4, api.OK}, {looked(heapsN(), look(0, 0, 0, 26), look(0, 0, 29, 100)), 4, api.OK},
		{three(), 5, api.OK}, {looked(apart(), look(0, 0, 49, 50)), 2, api.OK},
		// Looks at one heap on one evening leave what both of them do.
		{looked(heapsH(), look(0, 0, 27, 27), look(0, 0, 28, 28)), 3, api.OK}, {looked(heapsH(), look(0, 0, 26, 27), look(0, 0, 27, 28)), 0, api.ErrNone},
		// The wetness of a heap can be less and more, but not in between.
		{looked(one(50, 50, span(0, 1)), look(0, 0, 49, 50)), 1, api.OK}, {looked(one(50, 50, span(0, 1)), look(0, 0, 48, 50)), 0, api.ErrNone},
	} {
		if n, e := heap.Clash(x.h); n != x.want || e != x.e {
			t.Error(i, n, e)
		}
	}
}

// P3.1 to P3.7, against all truths one by one.
func TestAgainstEachTruth(t *testing.T) {
	for _, h := range smallHeaps(1, 1500) {
		checkAll(t, h)
	}
	for _, h := range []api.Heap{heapsH(), heapsK(), heapsN(), apart(), turns(), byTurns(), three()} {
		checkAll(t, h)
	}
}

// P3.1 to P3.7, of heaps of any size.
func TestGreatAgainstEachTruth(t *testing.T) {
	clash := looked(greatest(), look(0, 0, 45, 50), look(1, 1, 50, 60), look(2, 3, 60, 70), look(0, 4, 48, 50), look(1, 5, 0, 20))
	for _, h := range append(greatHeaps(2, 12), greatest(), clash) {
		checkAll(t, h)
	}
}

// P3.1 to P3.7, of all heaps of some few: one heap, each place, two days, and one look.
func TestAllTinyHeaps(t *testing.T) {
	rains := []api.Span{span(0, 0), span(0, 1), span(1, 2), span(2, 2)}
	for place := range 3 {
		for _, wet := range []api.Span{span(0, 1), span(1, 3), span(99, 100)} {
			for _, first := range rains {
				for _, second := range rains {
					h := api.Heap{Heaps: []api.HeapTurf{{Place: place, Wet: wet}}, Rains: []api.Span{first, second}, Dries: [3]int{0, 1, 3}, Limit: wet.Lo}
					checkAll(t, h)
					for n := max(0, wet.Lo-3); n <= min(api.HeapWet, wet.Hi+4); n++ {
						checkAll(t, looked(h, look(0, 0, n, n)))
						checkAll(t, looked(h, look(0, 1, n, n)))
					}
				}
			}
		}
	}
}
