package heap_test

import (
	"math"
	"reflect"
	"testing"

	"bogworks/api"
	"bogworks/heap"
)

// result is all that a call returns.
type result struct {
	a, b int
	w    api.Span
	e    api.Errno
}

// call is a function of the package, whether it is asked of a heap, and of a day, and whether it needs a truth.
type call struct {
	name          string
	do            func(h api.Heap, heap, day int) result
	heap, day     bool
	truth, always bool
}

func calls() []call {
	return []call{
		{"Wet", func(h api.Heap, i, day int) (r result) { r.w, r.e = heap.Wet(h, i, day); return r }, true, true, true, true},
		{"Rain", func(h api.Heap, i, day int) (r result) { r.w, r.e = heap.Rain(h, day); return r }, false, true, true, true},
		{"Dry", func(h api.Heap, i, day int) (r result) { r.a, r.e = heap.Dry(h, i, day); return r }, true, true, true, true},
		{"When", func(h api.Heap, i, day int) (r result) { r.a, r.e = heap.When(h, i); return r }, true, false, true, false},
		{"All", func(h api.Heap, i, day int) (r result) { r.a, r.e = heap.All(h); return r }, false, false, true, false},
		{"Doubt", func(h api.Heap, i, day int) (r result) { r.a, r.b, r.e = heap.Doubt(h, day); return r }, false, true, true, true},
		{"False", func(h api.Heap, i, day int) (r result) { r.a, r.b, r.e = heap.False(h); return r }, false, false, false, true},
		{"Clash", func(h api.Heap, i, day int) (r result) { r.a, r.e = heap.Clash(h); return r }, false, false, false, false},
	}
}

// each does the call of each heap and each day of which it can be asked.
func (c call) each(h api.Heap, f func(heap, day int, r result)) {
	heaps, days := 1, 1
	if c.heap {
		heaps = len(h.Heaps)
	}
	if c.day {
		days = len(h.Rains)
	}
	for i := range heaps {
		for day := range days {
			f(i, day, c.do(h, i, day))
		}
	}
}

// none returns spans that are none within two numbers.
func none(from, to int) []api.Span {
	return []api.Span{
		span(from-1, from), span(from-1, from-1), span(to, to+1), span(to+1, to+1), span(from+1, from), span(to, from),
		span(math.MinInt, math.MaxInt), span(math.MaxInt, math.MinInt), span(math.MinInt, from), span(to, math.MaxInt), span(math.MaxInt, math.MaxInt),
	}
}

// fresh returns heaps that share no memory with others.
func fresh(h api.Heap) api.Heap {
	h.Heaps = append([]api.HeapTurf(nil), h.Heaps...)
	h.Rains = append([]api.Span(nil), h.Rains...)
	h.Looks = append([]api.HeapLook(nil), h.Looks...)
	return h
}

// spoilt returns heaps that are not valid: N, whose looks clash, with one thing wrong.
func spoilt() (list []api.Heap) {
	add := func(spoil func(h *api.Heap)) {
		h := fresh(heapsN())
		spoil(&h)
		list = append(list, h)
	}
	add(func(h *api.Heap) { h.Heaps = nil })
	add(func(h *api.Heap) { h.Heaps = append(h.Heaps, h.Heaps...) })
	add(func(h *api.Heap) { h.Heaps, h.Looks = nil, nil })
	add(func(h *api.Heap) { h.Heaps, h.Looks = []api.HeapTurf{}, []api.HeapLook{} })
	add(func(h *api.Heap) { h.Heaps = h.Heaps[:1] })
	add(func(h *api.Heap) { h.Rains = nil })
	add(func(h *api.Heap) { h.Rains, h.Looks = nil, nil })
	add(func(h *api.Heap) { *h = api.Heap{Heaps: h.Heaps} })
	add(func(h *api.Heap) { h.Rains = make([]api.Span, 7) })
	add(func(h *api.Heap) { h.Rains = h.Rains[:2] })
	add(func(h *api.Heap) { h.Looks = append(h.Looks, h.Looks[0], h.Looks[0], h.Looks[0], h.Looks[0]) })
	for _, n := range []int{-1, 3, math.MinInt, math.MaxInt} {
		add(func(h *api.Heap) { h.Heaps[1].Place = n })
		add(func(h *api.Heap) { h.Looks[1].Day = n })
	}
	for _, n := range []int{-1, 2, math.MinInt, math.MaxInt} {
		add(func(h *api.Heap) { h.Looks[1].Heap = n })
	}
	for _, w := range append(none(0, 100), span(30, 36), span(0, 6), span(94, 100), span(0, 100)) {
		add(func(h *api.Heap) { h.Heaps[1].Wet = w })
	}
	for _, w := range append(none(0, 10), span(0, 4), span(6, 10), span(0, 10)) {
		add(func(h *api.Heap) { h.Rains[2] = w })
	}
	for _, w := range none(0, 100) {
		add(func(h *api.Heap) { h.Looks[1].Shows = w })
	}
	for _, n := range []int{-1, 101, math.MinInt, math.MaxInt} {
		add(func(h *api.Heap) { h.Limit = n })
	}
	for _, dries := range [][3]int{
		{-1, 5, 8}, {3, 5, 21}, {3, 2, 8}, {3, 5, 4}, {4, 3, 3}, {8, 5, 3}, {21, 21, 21}, {-2, -1, 0}, {-1, -1, -1}, {0, 20, 19},
		{math.MinInt, 0, 0}, {0, 0, math.MaxInt}, {math.MinInt, 5, math.MaxInt}, {0, math.MaxInt, 20}, {3, math.MinInt, 8},
	} {
		add(func(h *api.Heap) { h.Dries = dries })
	}
	return append(list, api.Heap{})
}

// ErrArg comes first, also where a number is none and the looks clash; with it all else is zero (R1, R2).
func TestErrArg(t *testing.T) {
	for i, h := range spoilt() {
		for _, c := range calls() {
			for _, n := range []int{0, 1, -1, math.MinInt, math.MaxInt} {
				for _, day := range []int{0, 2, 3, math.MinInt} {
					if r := c.do(h, n, day); r != (result{e: api.ErrArg}) {
						t.Error(i, c.name, n, day, r)
					}
				}
			}
		}
	}
}

// valids returns heaps that are valid, though a thing more or less of one of their fields would not be.
func valids() []api.Heap {
	last := greatest()
	last.Heaps[2] = turf(api.HeapHill, 95, 100)
	last.Rains[5] = span(7, 10)
	last.Dries = [3]int{20, 20, 20}
	last.Limit = 100
	first := one(0, 5, span(0, 3))
	first.Heaps[0].Place = api.HeapHollow
	first.Dries = [3]int{}
	first.Limit = 0
	return []api.Heap{
		heapsH(), heapsK(), greatest(), last, first, one(100, 100, span(10, 10)), one(0, 0, span(0, 0)),
		looked(last, look(2, 5, 0, 100), look(2, 5, 100, 100), look(0, 0, 0, 100), look(0, 0, 1, 99), look(0, 5, 0, 100)),
	}
}

// Of heaps that are valid, and have a truth, no call has an error, but that there is no such day, and no clash.
func TestNoError(t *testing.T) {
	for i, h := range valids() {
		for _, c := range calls() {
			c.each(h, func(n, day int, r result) {
				if c.always && r.e != api.OK || !c.always && r.e != api.OK && r != (result{e: api.ErrNone}) || c.name == "Clash" && r.e != api.ErrNone {
					t.Error(i, c.name, n, day, r)
				}
			})
		}
	}
}

// ErrRange comes before ErrClash; of a heap or a day that a function is not asked of it makes no difference.
func TestErrRange(t *testing.T) {
	for i, h := range append(valids(), heapsN(), three()) {
		for _, c := range calls() {
			want := c.do(h, 0, 0)
			for _, n := range []int{-1, len(h.Heaps), math.MinInt, math.MaxInt} {
				if r := c.do(h, n, 0); c.heap && r != (result{e: api.ErrRange}) || !c.heap && r != want {
					t.Error(i, c.name, n, r)
				}
			}
			for _, n := range []int{-1, len(h.Rains), math.MinInt, math.MaxInt} {
				if r := c.do(h, 0, n); c.day && r != (result{e: api.ErrRange}) || !c.day && r != want {
					t.Error(i, c.name, n, r)
				}
			}
		}
	}
}

// ErrClash is that of all functions but False and Clash, and comes before ErrNone.
func TestErrClash(t *testing.T) {
	for i, h := range []api.Heap{heapsN(), three(), looked(heapsH(), look(0, 0, 0, 26)), looked(greatest(), look(0, 5, 69, 100)), looked(one(50, 50, span(0, 1)), look(0, 0, 49, 50))} {
		for _, c := range calls() {
			c.each(h, func(n, day int, r result) {
				if c.truth && r != (result{e: api.ErrClash}) || !c.truth && r.e != api.OK {
					t.Error(i, c.name, n, day, r)
				}
			})
		}
	}
}

// With ErrNone all else is zero.
func TestErrNone(t *testing.T) {
	h := heapsK()
	if n, e := heap.When(h, 0); n != 0 || e != api.ErrNone {
		t.Error(n, e)
	}
	if n, e := heap.All(h); n != 0 || e != api.ErrNone {
		t.Error(n, e)
	}
	if n, e := heap.Clash(h); n != 0 || e != api.ErrNone {
		t.Error(n, e)
	}
}

// R4: no argument is changed. R3: a nil list is an empty one.
func TestArguments(t *testing.T) {
	empty := heapsH()
	empty.Looks = []api.HeapLook{}
	for _, c := range calls() {
		if r, s := c.do(empty, 1, 2), c.do(heapsH(), 1, 2); r != s {
			t.Error(c.name, r, s)
		}
		for _, h := range []api.Heap{heapsH(), heapsK(), heapsN(), looked(three(), look(0, 0, 3, 3)), turns()} {
			before := fresh(h)
			c.do(h, 0, 1)
			if !reflect.DeepEqual(fresh(h), before) {
				t.Error(c.name, h, before)
			}
		}
	}
}

// R4: what lies behind a list is not changed.
func TestBehindLists(t *testing.T) {
	whole := looked(heapsN(), look(0, 0, 0, 0), look(1, 1, 9, 9))
	h := fresh(whole)
	h.Heaps, h.Rains, h.Looks = h.Heaps[:1], h.Rains[:2], h.Looks[2:3]
	for _, c := range calls() {
		c.do(h, 0, 1)
	}
	h.Heaps, h.Rains = h.Heaps[:2], h.Rains[:3]
	if !reflect.DeepEqual(h.Heaps, whole.Heaps) || !reflect.DeepEqual(h.Rains, whole.Rains) || !reflect.DeepEqual(h.Looks[:2], whole.Looks[2:]) {
		t.Error(h)
	}
}

// P1: of no heaps a call panics.
func TestAnyArguments(t *testing.T) {
	odd := []int{math.MinInt, -1, 0, 1, 2, 100, math.MaxInt}
	for _, x := range odd {
		for _, y := range odd {
			h := api.Heap{Heaps: []api.HeapTurf{turf(x, x, y), turf(0, y, x)}, Rains: []api.Span{span(x, y), span(0, y)}, Dries: [3]int{x, y, x}, Limit: y, Looks: []api.HeapLook{look(x, y, x, y), look(0, 0, x, y)}}
			some := looked(heapsH(), look(x, y, 20, 30), look(0, 1, x, y))
			for _, c := range calls() {
				for _, n := range odd {
					c.do(h, n, x)
					c.do(some, y, n)
					c.do(heapsN(), n, y)
					c.do(heapsH(), n, y)
				}
			}
		}
	}
}
