package road_test

import (
	"math"
	"math/bits"
	"math/rand"
	"testing"

	"bogworks/api"
	"bogworks/road"
)

func span(lo, hi int) api.Span { return api.Span{Lo: lo, Hi: hi} }

func has(w api.Span, n int) bool { return w.Lo <= n && n <= w.Hi }

// part returns a part by its Height, Stiff, Rise and Full.
func part(height, stiff, rise api.Span, full int) api.RoadPart {
	return api.RoadPart{Height: height, Stiff: stiff, Rise: rise, Full: full}
}

// known returns a part of which all is known.
func known(height, stiff, rise, full int) api.RoadPart {
	return part(span(height, height), span(stiff, stiff), span(rise, rise), full)
}

func pass(lo, hi int) api.RoadEvent { return api.RoadEvent{Kind: api.RoadPass, Load: span(lo, hi)} }

func rest(days int) api.RoadEvent { return api.RoadEvent{Kind: api.RoadRest, Days: days} }

func look(part, lo, hi int) api.RoadEvent {
	return api.RoadEvent{Kind: api.RoadLook, Part: part, Shows: span(lo, hi)}
}

// then returns a road with events behind its own.
func then(r api.Road, events ...api.RoadEvent) api.Road {
	r.Events = append(append([]api.RoadEvent(nil), r.Events...), events...)
	return r
}

// one returns a road of one part.
func one(p api.RoadPart, events ...api.RoadEvent) api.Road {
	return api.Road{Parts: []api.RoadPart{p}, Events: events}
}

// truth is what each part is after all events, how high it was after each of them, and which looks are right.
type truth struct {
	parts   []state
	heights [api.RoadParts][api.RoadEvents]int
	right   int
}

// state is what a part is at some time.
type state struct{ height, stiff, rise, full int }

// depth returns how far the part sinks under a load: as far as the load can be divided, and once more for what is left of it.
func (s state) depth(load int) int {
	n := 0
	for load > 0 {
		load -= s.stiff
		n++
	}
	return n
}

// after returns the part after an event, day by day, step by step.
func (s state) after(e api.RoadEvent, load int) state {
	switch e.Kind {
	case api.RoadPass:
		s.height -= s.depth(load)
	case api.RoadRest:
		for range e.Days {
			for n := 0; n < s.rise && s.height < s.full; n++ {
				s.height++
			}
		}
	}
	return s
}

// doubts returns all that is not known exactly: height, stiffness and rise of each part, and each load.
func doubts(r api.Road) (list []api.Span) {
	for _, p := range r.Parts {
		list = append(list, p.Height, p.Stiff, p.Rise)
	}
	for _, e := range r.Events {
		if e.Kind == api.RoadPass {
			list = append(list, e.Load)
		}
	}
	return list
}

// goOn returns what comes of a choice of one integer for each doubt of a road.
func goOn(r api.Road, choice []int) (x truth) {
	for i, p := range r.Parts {
		x.parts = append(x.parts, state{choice[3*i], choice[3*i+1], choice[3*i+2], p.Full})
	}
	choice = choice[3*len(r.Parts):]
	for n, e := range r.Events {
		load := 0
		if e.Kind == api.RoadPass {
			load, choice = choice[0], choice[1:]
		}
		for i := range x.parts {
			x.parts[i] = x.parts[i].after(e, load)
			x.heights[i][n] = x.parts[i].height
		}
		if e.Kind != api.RoadLook || has(e.Shows, x.parts[e.Part].height) {
			x.right |= 1 << n
		}
	}
	return x
}

// bears tells whether a road bears a load after some days of rest.
func (x truth) bears(load, days int) bool {
	for _, s := range x.parts {
		if s = s.after(rest(days), 0); s.height-s.depth(load) < 0 {
			return false
		}
	}
	return true
}

// below tells whether some part was below the water after an event.
func (x truth) below(event int) bool {
	for i := range x.parts {
		if x.heights[i][event] < 0 {
			return true
		}
	}
	return false
}

// choices calls f with each choice of one integer of each span.
func choices(spans []api.Span, f func(list []int)) {
	list := make([]int, len(spans))
	var choose func(i int)
	choose = func(i int) {
		if i == len(spans) {
			f(list)
			return
		}
		for n := spans[i].Lo; n <= spans[i].Hi; n++ {
			list[i] = n
			choose(i + 1)
		}
	}
	choose(0)
}

// tried are the loads of which it is looked how far parts sink, and after how much rest they are borne.
func tried() []int { return []int{0, 1, 5, 12, 20, 31, 60} }

// learnt is what the truths leave in which all looks are right: how many these are, how high parts were, how far they would sink,
// in how many of them loads are borne, at once and after rest, and the road was below the water, and how low parts are at last;
// and of all choices which looks are right.
type learnt struct {
	truths  int
	heights [api.RoadParts][api.RoadEvents]api.Span
	sinks   [api.RoadParts][api.RoadLoad + 1]api.Span
	bears   [api.RoadLoad + 1]int
	rested  [api.RoadLoad + 1][api.RoadDays + 1]int
	below   [api.RoadEvents]int
	low     [api.RoadParts]int
	rights  map[int]bool
}

func wider(w *api.Span, n int, first bool) {
	if first {
		*w = span(n, n)
	}
	*w = span(min(w.Lo, n), max(w.Hi, n))
}

func (k *learnt) add(r api.Road, x truth) {
	k.rights[x.right] = true
	if x.right != 1<<len(r.Events)-1 {
		return
	}
	first := k.truths == 0
	k.truths++
	for i, s := range x.parts {
		for n := range r.Events {
			wider(&k.heights[i][n], x.heights[i][n], first)
		}
		for _, load := range tried() {
			wider(&k.sinks[i][load], s.depth(load), first)
		}
		if first || s.height < k.low[i] {
			k.low[i] = s.height
		}
	}
	for n := range r.Events {
		if x.below(n) {
			k.below[n]++
		}
	}
	k.addLoads(x)
}

func (k *learnt) addLoads(x truth) {
	for load := range k.bears {
		if x.bears(load, 0) {
			k.bears[load]++
		}
	}
	for _, load := range tried() {
		for days := range k.rested[load] {
			if x.bears(load, days) {
				k.rested[load][days]++
			}
		}
	}
}

// learn returns what the truths of a road leave, one by one.
func learn(r api.Road) learnt {
	k := learnt{rights: map[int]bool{}}
	choices(doubts(r), func(list []int) { k.add(r, goOn(r, list)) })
	return k
}

// code returns the error of all functions but Clash.
func (k learnt) code() api.Errno {
	if k.truths == 0 {
		return api.ErrClash
	}
	return api.OK
}

// borne returns whether something that is so in many truths is so in each of them, or in none.
func (k learnt) borne(many int) int {
	switch {
	case k.truths == 0 || many == 0:
		return api.RoadNever
	case many == k.truths:
		return api.RoadAlways
	}
	return api.RoadPerhaps
}

// most returns the greatest load that is borne in each truth.
func (k learnt) most() (int, api.Errno) {
	for load := api.RoadLoad; load >= 0 && k.truths > 0; load-- {
		if k.bears[load] == k.truths {
			return load, api.OK
		}
	}
	return 0, max(k.code(), api.ErrNone)
}

// rest returns after how few days of rest a load is borne in each truth.
func (k learnt) rest(load int) (int, api.Errno) {
	for days := 0; days <= api.RoadDays && k.truths > 0; days++ {
		if k.rested[load][days] == k.truths {
			return days, api.OK
		}
	}
	return 0, max(k.code(), api.ErrNone)
}

// waters returns after which events the road was below the water.
func (k learnt) waters() (surely, perhaps int) {
	for n, many := range k.below {
		if many > 0 {
			perhaps |= 1 << n
		}
		if many > 0 && many == k.truths {
			surely |= 1 << n
		}
	}
	return surely, perhaps
}

// weak returns the first of the parts that can be lowest.
func (k learnt) weak(r api.Road) int {
	weak := 0
	for i := range r.Parts {
		if k.low[i] < k.low[weak] {
			weak = i
		}
	}
	return weak
}

// clash returns the fewest looks with which alone there is no truth, of several the least number; 0 if there is a truth.
func (k learnt) clash(r api.Road) int {
	for many := range len(r.Events) + 1 {
		for in := range 1 << len(r.Events) {
			if bits.OnesCount(uint(in)) == many && k.truths == 0 && !k.can(in) {
				return in
			}
		}
	}
	return 0
}

// can tells whether there is a truth with a set of looks alone. Events that are none are right in each choice.
func (k learnt) can(in int) bool {
	for right := range k.rights {
		if in&^right == 0 {
			return true
		}
	}
	return false
}

// checkAll compares all that the package returns of a valid road with what its truths, one by one, leave.
func checkAll(t *testing.T, r api.Road) {
	t.Helper()
	k := learn(r)
	want := k.code()
	for i := range r.Parts {
		for n := range r.Events {
			if w, e := road.Height(r, i, n); w != k.heights[i][n] || e != want {
				t.Errorf("Height %+v, %d, %d: %v %d, want %v %d", r, i, n, w, e, k.heights[i][n], want)
			}
		}
		for _, load := range tried() {
			if w, e := road.Sinks(r, i, load); w != k.sinks[i][load] || e != want {
				t.Errorf("Sinks %+v, %d, %d: %v %d, want %v %d", r, i, load, w, e, k.sinks[i][load], want)
			}
		}
	}
	a, b := k.waters()
	if s, p, e := road.Below(r); s != a || p != b || e != want {
		t.Errorf("Below %+v: %d %d %d, want %d %d %d", r, s, p, e, a, b, want)
	}
	if n, e := road.Weak(r); n != k.weak(r) || e != want {
		t.Errorf("Weak %+v: %d %d, want %d %d", r, n, e, k.weak(r), want)
	}
	checkLoads(t, r, k)
	clash, want := k.clash(r), api.ErrNone
	if k.truths == 0 {
		want = api.OK
	}
	if n, e := road.Clash(r); n != clash || e != want {
		t.Errorf("Clash %+v: %d %d, want %d %d", r, n, e, clash, want)
	}
}

func checkLoads(t *testing.T, r api.Road, k learnt) {
	t.Helper()
	for load, many := range k.bears {
		if n, e := road.Bears(r, load); n != k.borne(many) || e != k.code() {
			t.Errorf("Bears %+v, %d: %d %d, want %d %d", r, load, n, e, k.borne(many), k.code())
		}
	}
	load, want := k.most()
	if n, e := road.Most(r); n != load || e != want {
		t.Errorf("Most %+v: %d %d, want %d %d", r, n, e, load, want)
	}
	for _, load := range tried() {
		days, want := k.rest(load)
		if n, e := road.Rest(r, load); n != days || e != want {
			t.Errorf("Rest %+v, %d: %d %d, want %d %d", r, load, n, e, days, want)
		}
	}
}

// someSpan returns a span within two numbers, at most so wide.
func someSpan(r *rand.Rand, from, to, wide int) api.Span {
	lo := from + r.Intn(to-from+1)
	return span(lo, min(to, lo+r.Intn(wide+1)))
}

// great returns a road of any size, without looks; its loads bring it near the water, far below, or hardly down.
func great(r *rand.Rand, events int) (g api.Road) {
	wide, heavy := r.Intn(api.RoadWide+1), []int{5, 20, api.RoadLoad}[r.Intn(3)]
	for range 1 + r.Intn(api.RoadParts) {
		full := r.Intn(api.RoadHeight + 1)
		g.Parts = append(g.Parts, part(someSpan(r, full/2, full, wide), someSpan(r, 1, api.RoadStiff, wide), someSpan(r, 0, api.RoadRise, wide), full))
	}
	doubts := 0
	for range r.Intn(events + 1) {
		e := pass(0, 0)
		if e.Load = someSpan(r, 0, heavy, wide); e.Load.Lo != e.Load.Hi {
			doubts++
		}
		if r.Intn(5) < 2 || doubts > api.RoadDoubts {
			e = rest(1 + r.Intn(api.RoadDays))
		}
		g.Events = append(g.Events, e)
	}
	return g
}

// chosen returns one choice for each doubt of a road.
func chosen(r *rand.Rand, g api.Road) (list []int) {
	for _, w := range doubts(g) {
		list = append(list, w.Lo+r.Intn(w.Hi-w.Lo+1))
	}
	return list
}

// inserted returns a road with one event more ahead of another one, or behind all.
func inserted(g api.Road, at int, e api.RoadEvent) api.Road {
	events := append([]api.RoadEvent(nil), g.Events[:at]...)
	g.Events = append(append(events, e), g.Events[at:]...)
	return g
}

// lookMore returns a road with a look more, somewhere, that is right by a choice, and its place.
func lookMore(r *rand.Rand, g api.Road, choice []int) (api.Road, int) {
	at, i := r.Intn(len(g.Events)+1), r.Intn(len(g.Parts))
	g = inserted(g, at, look(i, 0, 0))
	n := goOn(g, choice).heights[i][at]
	g.Events[at].Shows = span(n-r.Intn(2), n+r.Intn(3))
	return g, at
}

// withLooks returns a road with up to so many looks, which often are right by one choice.
func withLooks(r *rand.Rand, g api.Road, many int) api.Road {
	x := chosen(r, g)
	for range r.Intn(many + 1) {
		if len(g.Events) == api.RoadEvents {
			break
		}
		if r.Intn(2) == 0 {
			x = chosen(r, g)
		}
		at := 0
		if g, at = lookMore(r, g, x); r.Intn(8) == 0 {
			g.Events[at].Shows = someSpan(r, -60, api.RoadHeight, 30)
		}
	}
	return g
}

// truths returns how many choices a road leaves.
func truths(g api.Road) int {
	n := 1
	for _, w := range doubts(g) {
		n *= w.Hi - w.Lo + 1
	}
	return n
}

// roads returns roads with looks that leave from so many choices to so many, any of them, or few ones; the same in each run.
func roads(seed int64, many, from, to int) (list []api.Road) {
	r := rand.New(rand.NewSource(seed))
	for len(list) < many {
		if g := great(r, 1+r.Intn(api.RoadEvents)); has(span(from, to), truths(g)) {
			list = append(list, withLooks(r, g, 6))
		}
	}
	return list
}

func anyRoads(seed int64, many int) []api.Road { return roads(seed, many, 1, math.MaxInt) }

func smallRoads(seed int64, many int) []api.Road { return roads(seed, many, 1, 1000) }
