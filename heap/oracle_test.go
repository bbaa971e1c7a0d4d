package heap_test

import (
	"math"
	"math/bits"
	"math/rand"
	"testing"

	"bogworks/api"
	"bogworks/heap"
)

func span(lo, hi int) api.Span { return api.Span{Lo: lo, Hi: hi} }

func has(w api.Span, n int) bool { return w.Lo <= n && n <= w.Hi }

func turf(place, lo, hi int) api.HeapTurf { return api.HeapTurf{Place: place, Wet: span(lo, hi)} }

func look(heap, day, lo, hi int) api.HeapLook {
	return api.HeapLook{Heap: heap, Day: day, Shows: span(lo, hi)}
}

// looked returns heaps with looks behind their own.
func looked(h api.Heap, looks ...api.HeapLook) api.Heap {
	h.Looks = append(append([]api.HeapLook(nil), h.Looks...), looks...)
	return h
}

// truth is how much it rains on each day, how wet each heap is each evening, and which looks are right.
type truth struct {
	rain  []int
	wet   [api.HeapHeaps][api.HeapDays]int
	right int
}

// weather lets heaps that are as wet as first says get wet and dry, day by day, unit by unit.
func weather(h api.Heap, first, rain []int) truth {
	t := truth{rain: rain}
	for i, x := range h.Heaps {
		wet := first[i]
		for day, fell := range rain {
			for range fell {
				if wet < 100 {
					wet++
				}
			}
			for n := 0; fell == 0 && n < h.Dries[x.Place]; n++ {
				if wet > 0 {
					wet--
				}
			}
			t.wet[i][day] = wet
		}
	}
	for i, l := range h.Looks {
		if has(l.Shows, t.wet[l.Heap][l.Day]) {
			t.right |= 1 << i
		}
	}
	return t
}

// doubts returns all that is not known exactly: how wet heaps are at first, and how much it rains.
func doubts(h api.Heap) (list []api.Span) {
	for _, x := range h.Heaps {
		list = append(list, x.Wet)
	}
	return append(list, h.Rains...)
}

// choices calls f with each choice of one integer of each span.
func choices(spans []api.Span, f func(list []int)) {
	list := make([]int, len(spans))
	var choose func(i int)
	choose = func(i int) {
		if i == len(spans) {
			f(list)
			return
		}
		for n := spans[i].Lo; n <= spans[i].Hi; n++ {
			list[i] = n
			choose(i + 1)
		}
	}
	choose(0)
}

// known is what the truths leave in which all looks are right: how many these are, how wet heaps can be, how much it can have
// rained, and in how many of them a heap is dry; and of all choices which looks are right.
type known struct {
	truths int
	wet    [api.HeapHeaps][api.HeapDays]api.Span
	rain   [api.HeapDays]api.Span
	dry    [api.HeapHeaps][api.HeapDays]int
	rights map[int]bool
}

func wider(w *api.Span, n int, first bool) {
	if first {
		*w = span(n, n)
	}
	*w = span(min(w.Lo, n), max(w.Hi, n))
}

func (k *known) add(h api.Heap, t truth) {
	k.rights[t.right] = true
	if t.right != 1<<len(h.Looks)-1 {
		return
	}
	for day, fell := range t.rain {
		wider(&k.rain[day], fell, k.truths == 0)
		for i := range h.Heaps {
			wider(&k.wet[i][day], t.wet[i][day], k.truths == 0)
			if t.wet[i][day] <= h.Limit {
				k.dry[i][day]++
			}
		}
	}
	k.truths++
}

// knowing returns what the truths of heaps leave, one by one.
func knowing(h api.Heap) known {
	k := known{rights: map[int]bool{}}
	choices(doubts(h), func(list []int) { k.add(h, weather(h, list[:len(h.Heaps)], list[len(h.Heaps):])) })
	return k
}

// can tells whether there is a truth with a set of looks alone.
func (k known) can(in int) bool {
	for right := range k.rights {
		if in&^right == 0 {
			return true
		}
	}
	return false
}

// surely returns the first day in whose evening each of some heaps is dry in each truth.
func (k known) surely(h api.Heap, heaps ...int) (int, api.Errno) {
	if k.truths == 0 {
		return 0, api.ErrClash
	}
	for day := range h.Rains {
		all := true
		for _, i := range heaps {
			all = all && k.dry[i][day] == k.truths
		}
		if all {
			return day, api.OK
		}
	}
	return 0, api.ErrNone
}

// isDry returns whether a heap is dry in the evening of a day.
func (k known) isDry(i, day int) int {
	switch {
	case k.truths == 0 || k.dry[i][day] == 0:
		return api.HeapNever
	case k.dry[i][day] == k.truths:
		return api.HeapAlways
	}
	return api.HeapPerhaps
}

// doubt returns of which heap least is known in the evening of a day.
func (k known) doubt(h api.Heap, day int) (heap, wide int) {
	wide = math.MinInt
	for i := range h.Heaps {
		if n := k.wet[i][day].Hi - k.wet[i][day].Lo; n > wide {
			heap, wide = i, n
		}
	}
	return heap, wide
}

// least returns the first set of n looks that suits: of few ones, and of these the least number.
func least(n int, suits func(in int) bool) int {
	for size := 0; size <= n; size++ {
		for in := range 1 << n {
			if bits.OnesCount(uint(in)) == size && suits(in) {
				return in
			}
		}
	}
	return -1
}

// all returns the numbers of heaps.
func all(h api.Heap) (list []int) {
	for i := range h.Heaps {
		list = append(list, i)
	}
	return list
}

// checkAll compares all that the package returns of valid heaps with what their truths, one by one, leave.
func checkAll(t *testing.T, h api.Heap) {
	t.Helper()
	k := knowing(h)
	want := api.OK
	if k.truths == 0 {
		want = api.ErrClash
	}
	for day := range h.Rains {
		if w, e := heap.Rain(h, day); w != k.rain[day] || e != want {
			t.Errorf("Rain %+v, %d: %v %d, want %v %d", h, day, w, e, k.rain[day], want)
		}
		i, n := k.doubt(h, day)
		if j, m, e := heap.Doubt(h, day); j != i || m != n || e != want {
			t.Errorf("Doubt %+v, %d: %d %d %d, want %d %d %d", h, day, j, m, e, i, n, want)
		}
		for i := range h.Heaps {
			if w, e := heap.Wet(h, i, day); w != k.wet[i][day] || e != want {
				t.Errorf("Wet %+v, %d, %d: %v %d, want %v %d", h, i, day, w, e, k.wet[i][day], want)
			}
			if n, e := heap.Dry(h, i, day); n != k.isDry(i, day) || e != want {
				t.Errorf("Dry %+v, %d, %d: %d %d, want %d %d", h, i, day, n, e, k.isDry(i, day), want)
			}
		}
	}
	checkSurely(t, h, k)
	checkLooks(t, h, k)
}

func checkSurely(t *testing.T, h api.Heap, k known) {
	t.Helper()
	for i := range h.Heaps {
		day, want := k.surely(h, i)
		if n, e := heap.When(h, i); n != day || e != want {
			t.Errorf("When %+v, %d: %d %d, want %d %d", h, i, n, e, day, want)
		}
	}
	day, want := k.surely(h, all(h)...)
	if n, e := heap.All(h); n != day || e != want {
		t.Errorf("All %+v: %d %d, want %d %d", h, n, e, day, want)
	}
}

func checkLooks(t *testing.T, h api.Heap, k known) {
	t.Helper()
	every := 1<<len(h.Looks) - 1
	out := least(len(h.Looks), func(out int) bool { return k.can(every &^ out) })
	if n, in, e := heap.False(h); n != bits.OnesCount(uint(out)) || in != out || e != api.OK {
		t.Errorf("False %+v: %d %d %d, want %d", h, n, in, e, out)
	}
	clash, want := 0, api.ErrNone
	if k.truths == 0 {
		clash, want = least(len(h.Looks), func(in int) bool { return !k.can(in) }), api.OK
	}
	if n, e := heap.Clash(h); n != clash || e != want {
		t.Errorf("Clash %+v: %d %d, want %d %d", h, n, e, clash, want)
	}
}

// someSpan returns a span within two numbers, at most so wide.
func someSpan(r *rand.Rand, from, to, wide int) api.Span {
	lo := from + r.Intn(to-from+1)
	return span(lo, min(to, lo+r.Intn(wide+1)))
}

// great returns heaps of any size, without looks; their weather brings them near 0, near HeapWet, or neither.
func great(r *rand.Rand) (h api.Heap) {
	from := r.Intn(3) * 48
	doubt, wide := r.Intn(api.HeapDoubt+1), r.Intn(api.HeapWide+1)
	for range 1 + r.Intn(api.HeapHeaps) {
		h.Heaps = append(h.Heaps, api.HeapTurf{Place: r.Intn(3), Wet: someSpan(r, from, min(from+20, api.HeapWet), doubt)})
	}
	for range 1 + r.Intn(api.HeapDays) {
		h.Rains = append(h.Rains, someSpan(r, 0, []int{0, 3, api.HeapRain}[r.Intn(3)], wide))
	}
	for i := range h.Dries {
		h.Dries[i] = r.Intn(api.HeapDries + 1)
		if i > 0 {
			h.Dries[i] = min(api.HeapDries, h.Dries[i-1]+r.Intn(5))
		}
	}
	h.Limit = min(api.HeapWet, max(0, from+r.Intn(30)-10))
	return h
}

// chosen returns one truth of heaps, looking at no look.
func chosen(r *rand.Rand, h api.Heap) truth {
	var list []int
	for _, x := range doubts(h) {
		list = append(list, x.Lo+r.Intn(x.Hi-x.Lo+1))
	}
	return weather(h, list[:len(h.Heaps)], list[len(h.Heaps):])
}

// rightLook returns a look that is right in a truth.
func rightLook(r *rand.Rand, h api.Heap, x truth) api.HeapLook {
	i, day := r.Intn(len(h.Heaps)), r.Intn(len(h.Rains))
	n := x.wet[i][day]
	return look(i, day, max(0, n-r.Intn(4)), min(api.HeapWet, n+r.Intn(4)))
}

// withLooks returns heaps with up to so many looks, which often are right in one truth.
func withLooks(r *rand.Rand, h api.Heap, many int) api.Heap {
	x := chosen(r, h)
	for range r.Intn(many + 1) {
		if r.Intn(5) == 0 {
			x = chosen(r, h)
		}
		l := rightLook(r, h, x)
		if r.Intn(8) == 0 {
			l.Shows = someSpan(r, 0, api.HeapWet, 10)
		}
		h = looked(h, l)
	}
	return h
}

// small tells whether heaps have few enough truths to look at each of them often.
func small(h api.Heap) bool {
	n := 1
	for _, x := range doubts(h) {
		n *= x.Hi - x.Lo + 1
	}
	return n <= 3000
}

// greatHeaps returns heaps of any size with looks, smallHeaps such of few truths; the same ones in each run.
func greatHeaps(seed int64, many int) (list []api.Heap) {
	r := rand.New(rand.NewSource(seed))
	for range many {
		list = append(list, withLooks(r, great(r), api.HeapLooks))
	}
	return list
}

func smallHeaps(seed int64, many int) (list []api.Heap) {
	r := rand.New(rand.NewSource(seed))
	for len(list) < many {
		if h := great(r); small(h) {
			list = append(list, withLooks(r, h, api.HeapLooks))
		}
	}
	return list
}
