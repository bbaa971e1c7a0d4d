package heap_test

import (
	"math/bits"
	"math/rand"
	"reflect"
	"testing"

	"bogworks/api"
	"bogworks/heap"
)

// never is the number that stands for a day that there is not; it is later than all others.
const never = api.HeapDays

// answers is all that the package returns of heaps, but for which looks must be false, and which clash.
type answers struct {
	wet       [api.HeapHeaps][api.HeapDays]api.Span
	rain      [api.HeapDays]api.Span
	dry       [api.HeapHeaps][api.HeapDays]int
	when      [api.HeapHeaps]int
	all       int
	most      [api.HeapDays]int
	many, few int
}

// ask returns the answers, and whether there is a truth.
func ask(t *testing.T, h api.Heap) (a answers, ok bool) {
	t.Helper()
	ok = true
	keep := func(e api.Errno) {
		if e != api.OK && e != api.ErrClash {
			t.Fatalf("%+v: %d", h, e)
		}
		ok = ok && e == api.OK
	}
	first := func(day int, e api.Errno) int {
		if e == api.ErrNone {
			return never
		}
		keep(e)
		return day
	}
	var e api.Errno
	for day := range h.Rains {
		a.rain[day], e = heap.Rain(h, day)
		keep(e)
		_, a.most[day], e = heap.Doubt(h, day)
		keep(e)
		for i := range h.Heaps {
			a.wet[i][day], e = heap.Wet(h, i, day)
			keep(e)
			a.dry[i][day], e = heap.Dry(h, i, day)
			keep(e)
		}
	}
	for i := range h.Heaps {
		a.when[i] = first(heap.When(h, i))
	}
	a.all = first(heap.All(h))
	a.many, a.few = looksOf(t, h)
	return a, ok
}

// looksOf returns how few looks must be false, and how few ones clash, 0 if none do.
func looksOf(t *testing.T, h api.Heap) (many, few int) {
	t.Helper()
	many, out, e := heap.False(h)
	if e != api.OK || bits.OnesCount(uint(out)) != many || out >= 1<<len(h.Looks) {
		t.Fatalf("%+v: %d %d %d", h, many, out, e)
	}
	in, e := heap.Clash(h)
	if (e == api.OK) != (many > 0) || in >= 1<<len(h.Looks) || (e == api.OK) != (in > 0) {
		t.Fatalf("%+v: %d %d, and %d must be false", h, in, e, many)
	}
	return many, bits.OnesCount(uint(in))
}

// looks returns those of a set of looks.
func looks(h api.Heap, in int) api.Heap {
	list := h.Looks
	h.Looks = nil
	for i, l := range list {
		if in>>i&1 == 1 {
			h.Looks = append(h.Looks, l)
		}
	}
	return h
}

// P3.8, P2, P6: whatever is true, if looks are right, what is returned contains it.
func TestWhatIsTrue(t *testing.T) {
	r := rand.New(rand.NewSource(4))
	for range 200 {
		h := great(r)
		x := chosen(r, h)
		for range r.Intn(api.HeapLooks + 1) {
			h = looked(h, rightLook(r, h, x))
		}
		a, ok := ask(t, h)
		if !ok || a.many != 0 {
			t.Fatalf("%+v: no truth, though there is %v", h, x)
		}
		for day, fell := range x.rain {
			if !has(a.rain[day], fell) {
				t.Errorf("%+v: rain of %d on %d", h, fell, day)
			}
			dry := true
			for i := range h.Heaps {
				n := x.wet[i][day]
				dry = dry && n <= h.Limit
				if !has(a.wet[i][day], n) || a.dry[i][day] == api.HeapAlways && n > h.Limit || a.dry[i][day] == api.HeapNever && n <= h.Limit {
					t.Errorf("%+v: %d is %d on %d", h, i, n, day)
				}
				if a.when[i] == day && n > h.Limit {
					t.Errorf("%+v: %d is not dry on %d", h, i, day)
				}
			}
			if a.all == day && !dry {
				t.Errorf("%+v: not all are dry on %d", h, day)
			}
		}
	}
}

// What is returned of one call agrees with what is returned of others.
func TestTogether(t *testing.T) {
	for _, h := range append(greatHeaps(6, 200), greatest()) {
		a, ok := ask(t, h)
		if !ok {
			continue
		}
		for i := range h.Heaps {
			first := never
			for day := len(h.Rains) - 1; day >= 0; day-- {
				if a.dry[i][day] == api.HeapAlways {
					first = day
				}
				w := a.wet[i][day]
				if (w.Hi <= h.Limit) != (a.dry[i][day] == api.HeapAlways) || (w.Lo > h.Limit) != (a.dry[i][day] == api.HeapNever) {
					t.Errorf("%+v: %d on %d: %v is %d", h, i, day, w, a.dry[i][day])
				}
				if w.Hi-w.Lo > a.most[day] {
					t.Errorf("%+v: %d on %d: %v, and at most %d", h, i, day, w, a.most[day])
				}
			}
			if a.when[i] != first || a.all < first {
				t.Errorf("%+v: %d: %d, all %d, want %d", h, i, a.when[i], a.all, first)
			}
		}
	}
}

// P3.8: both ends of each span are those of a truth: a look that says so is right.
func TestEnds(t *testing.T) {
	r := rand.New(rand.NewSource(5))
	for range 150 {
		h := withLooks(r, great(r), api.HeapLooks-1)
		for day := range h.Rains {
			i := r.Intn(len(h.Heaps))
			w, e := heap.Wet(h, i, day)
			for _, n := range []int{w.Lo, w.Hi} {
				if many, _, _ := heap.False(looked(h, look(i, day, n, n))); e == api.OK && many != 0 {
					t.Errorf("%+v: %d on %d: %v", h, i, day, w)
				}
			}
			w, e = heap.Rain(h, day)
			for _, n := range []int{w.Lo, w.Hi} {
				c := fresh(h)
				c.Rains[day] = span(n, n)
				if many, _, _ := heap.False(c); e == api.OK && many != 0 {
					t.Errorf("%+v: rain on %d: %v", h, day, w)
				}
			}
		}
	}
}

// P3.8: of two heaps with the same Wet, and without looks, the one in the higher place is never wetter, nor surely dry later.
func TestHigherPlaces(t *testing.T) {
	r := rand.New(rand.NewSource(7))
	for range 150 {
		h := great(r)
		h.Heaps = []api.HeapTurf{h.Heaps[0], h.Heaps[0], h.Heaps[0]}
		for place := range h.Heaps {
			h.Heaps[place].Place = place
		}
		a, _ := ask(t, h)
		for i := 1; i < len(h.Heaps); i++ {
			for day := range h.Rains {
				if a.wet[i][day].Lo > a.wet[i-1][day].Lo || a.wet[i][day].Hi > a.wet[i-1][day].Hi || a.dry[i][day] < a.dry[i-1][day] {
					t.Errorf("%+v: %d is wetter on %d: %v", h, i, day, a.wet)
				}
			}
			if a.when[i] > a.when[i-1] {
				t.Errorf("%+v: %d is dry later: %v", h, i, a.when)
			}
		}
	}
}

// less tells whether the answers say less than those before of as many heaps.
func less(before, after answers) bool {
	for i := range before.wet {
		for day := range before.rain {
			x, y := before.wet[i][day], after.wet[i][day]
			v, w := before.rain[day], after.rain[day]
			if y.Lo < x.Lo || y.Hi > x.Hi || w.Lo < v.Lo || w.Hi > v.Hi || after.most[day] > before.most[day] {
				return true
			}
			if before.dry[i][day] != api.HeapPerhaps && before.dry[i][day] != after.dry[i][day] {
				return true
			}
		}
		if after.when[i] > before.when[i] {
			return true
		}
	}
	return after.all > before.all
}

// checkMore checks that of the heaps c, of which more is known, no less is returned than of h; it tells whether c has a truth.
func checkMore(t *testing.T, h, c api.Heap) bool {
	t.Helper()
	after, truth := ask(t, c)
	before, ok := ask(t, h)
	if truth && (!ok || less(before, after)) {
		t.Errorf("%+v, %+v: %+v %v, then %+v", h, c, before, ok, after)
	}
	if after.many < before.many || len(c.Looks) > len(h.Looks) && after.many > before.many+1 {
		t.Errorf("%+v, %+v: %d must be false, then %d", h, c, before.many, after.many)
	}
	return truth
}

// P3.9, P2: with a look more nothing is returned less exactly.
func TestLookMore(t *testing.T) {
	r := rand.New(rand.NewSource(8))
	tried := 0
	for range 200 {
		h := withLooks(r, great(r), api.HeapLooks-1)
		if checkMore(t, h, looked(h, rightLook(r, h, chosen(r, h)))) {
			tried++
		}
	}
	if tried < 50 || tried > 180 {
		t.Error(tried)
	}
}

// narrowed returns a span within another one.
func narrowed(r *rand.Rand, w api.Span) api.Span {
	w.Lo += r.Intn(w.Hi - w.Lo + 1)
	w.Hi -= r.Intn(w.Hi - w.Lo + 1)
	return w
}

// P3.9: with a look that shows less nothing is returned less exactly.
func TestLookNarrower(t *testing.T) {
	r := rand.New(rand.NewSource(9))
	tried := 0
	for range 300 {
		h := withLooks(r, great(r), api.HeapLooks)
		if len(h.Looks) == 0 {
			continue
		}
		c := fresh(h)
		l := &c.Looks[r.Intn(len(c.Looks))]
		l.Shows = narrowed(r, l.Shows)
		if checkMore(t, h, c) {
			tried++
		}
	}
	if tried < 50 {
		t.Error(tried)
	}
}

// P3.9: with a rain that is known better nothing is returned less exactly.
func TestRainNarrower(t *testing.T) {
	r := rand.New(rand.NewSource(10))
	tried := 0
	for range 200 {
		h := withLooks(r, great(r), api.HeapLooks)
		c := fresh(h)
		w := &c.Rains[r.Intn(len(c.Rains))]
		*w = narrowed(r, *w)
		if checkMore(t, h, c) {
			tried++
		}
	}
	if tried < 50 {
		t.Error(tried)
	}
}

// P3.9: with a greater Limit no heap is dry later, and all else stays as it is.
func TestGreaterLimit(t *testing.T) {
	r := rand.New(rand.NewSource(11))
	for _, h := range greatHeaps(12, 150) {
		c := limited(h, h.Limit+r.Intn(api.HeapWet-h.Limit+1))
		a, ok := ask(t, h)
		b, good := ask(t, c)
		for i := range h.Heaps {
			for day := range h.Rains {
				if b.dry[i][day] < a.dry[i][day] {
					t.Errorf("%+v, %+v: %d on %d: %d, then %d", h, c, i, day, a.dry[i][day], b.dry[i][day])
				}
			}
			if b.when[i] > a.when[i] || b.all > a.all {
				t.Errorf("%+v, %+v: %d: %d, all %d, then %d, all %d", h, c, i, a.when[i], a.all, b.when[i], b.all)
			}
		}
		if a.wet != b.wet || a.rain != b.rain || a.many != b.many || a.few != b.few || a.most != b.most || ok != good {
			t.Errorf("%+v, %+v: %+v, then %+v", h, c, a, b)
		}
	}
}

// P3.9, P11: the order of looks makes no difference but to their numbers.
func TestOrderOfLooks(t *testing.T) {
	r := rand.New(rand.NewSource(13))
	for _, h := range append(greatHeaps(14, 200), heapsN(), three()) {
		c := fresh(h)
		for i, at := range r.Perm(len(h.Looks)) {
			c.Looks[at] = h.Looks[i]
		}
		a, ok := ask(t, h)
		b, good := ask(t, c)
		if ok != good || a != b {
			t.Errorf("%+v, %+v: %+v %v, %+v %v", h, c, a, ok, b, good)
		}
		_, out, _ := heap.False(c)
		if many, _, _ := heap.False(looks(c, ^out)); many != 0 {
			t.Errorf("%+v: without %d there is no truth", c, out)
		}
		in, e := heap.Clash(c)
		if _, f := heap.Clash(looks(c, in)); e != f {
			t.Errorf("%+v: %d do not clash", c, in)
		}
	}
}

// P3.9, P11: if heaps are numbered otherwise only their numbers change.
func TestOrderOfHeaps(t *testing.T) {
	r := rand.New(rand.NewSource(15))
	for _, h := range append(greatHeaps(16, 200), heapsN()) {
		c := fresh(h)
		order := r.Perm(len(h.Heaps))
		for i, at := range order {
			c.Heaps[at] = h.Heaps[i]
		}
		for i := range c.Looks {
			c.Looks[i].Heap = order[c.Looks[i].Heap]
		}
		a, ok := ask(t, h)
		b, good := ask(t, c)
		want := a
		for i, at := range order {
			want.wet[at], want.dry[at], want.when[at] = a.wet[i], a.dry[i], a.when[i]
		}
		if ok != good || b != want {
			t.Errorf("%+v, %+v: %+v %v, %+v %v", h, c, a, ok, b, good)
		}
		_, out, _ := heap.False(h)
		_, other, _ := heap.False(c)
		in, e := heap.Clash(h)
		same, f := heap.Clash(c)
		if out != other || in != same || e != f {
			t.Errorf("%+v, %+v: without %d, %d; %d, %d clash", h, c, out, other, in, same)
		}
	}
}

// P11: a call leaves nothing behind that changes a later one.
func TestAgain(t *testing.T) {
	list := greatHeaps(17, 60)
	var before []answers
	for _, h := range list {
		a, _ := ask(t, h)
		before = append(before, a)
	}
	for i := len(list) - 1; i >= 0; i-- {
		if a, _ := ask(t, list[i]); !reflect.DeepEqual(a, before[i]) {
			t.Errorf("%+v: %+v, then %+v", list[i], before[i], a)
		}
	}
}
