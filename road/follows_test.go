package road_test

import (
	"math/bits"
	"math/rand"
	"testing"

	"bogworks/api"
	"bogworks/road"
)

// Numbers that stand for a load and for days that there are not; they are less, and more, than all others.
const (
	noLoad = -1
	noRest = api.RoadDays + 1
)

// answers is all that the package returns of a road, of each load, but for which looks clash; and how few these are.
type answers struct {
	heights         [api.RoadParts][api.RoadEvents]api.Span
	sinks           [api.RoadParts][api.RoadLoad + 1]api.Span
	bears, rest     [api.RoadLoad + 1]int
	most            int
	surely, perhaps int
	weak, few       int
}

// loads are those of which roads are asked.
func loads() []int { return []int{0, 1, 2, 3, 5, 8, 10, 13, 17, 20, 24, 30, 37, 45, 60} }

// ask returns the answers, and whether there is a truth.
func ask(t *testing.T, r api.Road) (a answers, ok bool) {
	t.Helper()
	ok = true
	keep := func(e api.Errno) {
		if e != api.OK && e != api.ErrClash {
			t.Fatalf("%+v: %d", r, e)
		}
		ok = ok && e == api.OK
	}
	or := func(n int, e api.Errno, none int) int {
		if e == api.ErrNone {
			return none
		}
		keep(e)
		return n
	}
	var e api.Errno
	for i := range r.Parts {
		for n := range r.Events {
			a.heights[i][n], e = road.Height(r, i, n)
			keep(e)
		}
		for _, load := range loads() {
			a.sinks[i][load], e = road.Sinks(r, i, load)
			keep(e)
		}
	}
	for _, load := range loads() {
		a.bears[load], e = road.Bears(r, load)
		keep(e)
		n, e := road.Rest(r, load)
		a.rest[load] = or(n, e, noRest)
	}
	n, e := road.Most(r)
	a.most = or(n, e, noLoad)
	a.surely, a.perhaps, e = road.Below(r)
	keep(e)
	a.weak, e = road.Weak(r)
	keep(e)
	in, e := road.Clash(r)
	a.few = bits.OnesCount(uint(in))
	if (e == api.OK) == ok || (e == api.ErrNone) != ok || in&^looksOf(r) != 0 {
		t.Fatalf("%+v: %d clash, %d, and there is a truth: %v", r, in, e, ok)
	}
	return a, ok
}

// looksOf returns the set of the looks at a road.
func looksOf(r api.Road) (set int) {
	for i, e := range r.Events {
		if e.Kind == api.RoadLook {
			set |= 1 << i
		}
	}
	return set
}

// P5.9, P2, P7: whatever is true, if looks are right, what is returned contains it.
func TestWhatIsTrue(t *testing.T) {
	r := rand.New(rand.NewSource(4))
	for range 200 {
		g := great(r, 7)
		choice := chosen(r, g)
		for range r.Intn(4) {
			g, _ = lookMore(r, g, choice)
		}
		a, ok := ask(t, g)
		if !ok || a.few != 0 {
			t.Fatalf("%+v: no truth, though there is %v", g, choice)
		}
		x := goOn(g, choice)
		for n := range g.Events {
			below := x.below(n)
			if a.surely>>n&1 == 1 && !below || a.perhaps>>n&1 == 0 && below {
				t.Errorf("%+v: below after %d is %v: %d %d", g, n, below, a.surely, a.perhaps)
			}
			for i := range g.Parts {
				if !has(a.heights[i][n], x.heights[i][n]) {
					t.Errorf("%+v: %d is %d after %d", g, i, x.heights[i][n], n)
				}
			}
		}
		checkTrueLoads(t, g, x, a)
	}
}

func checkTrueLoads(t *testing.T, g api.Road, x truth, a answers) {
	t.Helper()
	for _, load := range loads() {
		for i, s := range x.parts {
			if !has(a.sinks[i][load], s.depth(load)) {
				t.Errorf("%+v: %d sinks by %d under %d", g, i, s.depth(load), load)
			}
		}
		bears, days := x.bears(load, 0), a.rest[load]
		if a.bears[load] == api.RoadAlways && !bears || a.bears[load] == api.RoadNever && bears {
			t.Errorf("%+v: it is %v that %d is borne", g, bears, load)
		}
		if days != noRest && !x.bears(load, days) {
			t.Errorf("%+v: %d is not borne after %d", g, load, days)
		}
	}
	if a.most != noLoad && !x.bears(a.most, 0) {
		t.Errorf("%+v: %d is not borne", g, a.most)
	}
}

// What is returned of one call agrees with what is returned of others. P5.9: what is less than a load that is borne is borne.
func TestTogether(t *testing.T) {
	for _, g := range append(anyRoads(6, 200), greatest()) {
		a, ok := ask(t, g)
		if !ok {
			continue
		}
		before := 0
		for _, load := range loads() {
			always := a.bears[load] == api.RoadAlways
			if a.bears[load] > a.bears[before] || a.rest[load] < a.rest[before] || always != (load <= a.most) || always != (a.rest[load] == 0) {
				t.Errorf("%+v: %d: %+v", g, load, a)
			}
			before = load
		}
		for n := range g.Events {
			for i := range g.Parts {
				w := a.heights[i][n]
				if w.Hi < 0 && a.surely>>n&1 == 0 || (w.Lo < 0) && a.perhaps>>n&1 == 0 {
					t.Errorf("%+v: %d is %v after %d: %+v", g, i, w, n, a)
				}
				if last := len(g.Events) - 1; n == last && w.Lo < a.heights[a.weak][last].Lo {
					t.Errorf("%+v: %d is lower than %d: %+v", g, i, a.weak, a)
				}
			}
		}
		if a.surely&^a.perhaps != 0 || a.perhaps >= 1<<len(g.Events) {
			t.Errorf("%+v: %+v", g, a)
		}
	}
}

// P5.9: both ends of each span are those of a truth: a look that says so is right.
func TestEnds(t *testing.T) {
	r := rand.New(rand.NewSource(5))
	for range 300 {
		g := withLooks(r, great(r, 7), 2)
		for n := range g.Events {
			i := r.Intn(len(g.Parts))
			w, e := road.Height(g, i, n)
			for _, h := range []int{w.Lo, w.Hi} {
				if _, f := road.Clash(inserted(g, n+1, look(i, h, h))); e == api.OK && f != api.ErrNone {
					t.Errorf("%+v: %d after %d: %v", g, i, n, w)
				}
			}
		}
		i, load := r.Intn(len(g.Parts)), r.Intn(api.RoadLoad+1)
		w, e := road.Sinks(g, i, load)
		if e == api.OK && (!sinksSo(g, i, load, w.Lo) || !sinksSo(g, i, load, w.Hi)) {
			t.Errorf("%+v: %d under %d: %v", g, i, load, w)
		}
	}
}

// sinksSo tells whether there is a truth in which a part sinks so far under a load.
func sinksSo(g api.Road, part, load, depth int) bool {
	w := g.Parts[part].Stiff
	for stiff := w.Lo; stiff <= w.Hi; stiff++ {
		c := fresh(g)
		c.Parts[part].Stiff = span(stiff, stiff)
		if _, e := road.Clash(c); e == api.ErrNone && (state{stiff: stiff}).depth(load) == depth {
			return true
		}
	}
	return false
}

// within tells whether a span is within another one.
func within(in, out api.Span) bool { return out.Lo <= in.Lo && in.Hi <= out.Hi }

// less tells whether the answers say less than those before, whose events are at other places.
func less(before, after answers, places []int) bool {
	for i := range before.heights {
		for n, at := range places {
			if !within(after.heights[i][at], before.heights[i][n]) || before.surely>>n&1 > after.surely>>at&1 || before.perhaps>>n&1 < after.perhaps>>at&1 {
				return true
			}
		}
		for _, load := range loads() {
			if !within(after.sinks[i][load], before.sinks[i][load]) {
				return true
			}
		}
	}
	for _, load := range loads() {
		if before.bears[load] != api.RoadPerhaps && before.bears[load] != after.bears[load] || after.rest[load] > before.rest[load] {
			return true
		}
	}
	return after.most < before.most
}

// checkMore checks that of the road c, of which more is known, no less is returned than of g, whose events have other places in c;
// it tells whether c has a truth.
func checkMore(t *testing.T, g, c api.Road, places []int) bool {
	t.Helper()
	after, truth := ask(t, c)
	before, ok := ask(t, g)
	if truth && (!ok || less(before, after, places)) {
		t.Errorf("%+v, %+v: %+v %v, then %+v", g, c, before, ok, after)
	}
	if !truth && !ok && after.few > before.few {
		t.Errorf("%+v, %+v: %d clash, then %d", g, c, before.few, after.few)
	}
	return truth
}

// places returns where the events of a road are if there is one more at some place.
func places(g api.Road, more int) (list []int) {
	for n := range g.Events {
		if n >= more {
			n++
		}
		list = append(list, n)
	}
	return list
}

// P5.10, P2: with a look more nothing is returned less exactly.
func TestLookMore(t *testing.T) {
	r := rand.New(rand.NewSource(8))
	tried := 0
	for range 300 {
		g := withLooks(r, great(r, 6), 3)
		c, at := lookMore(r, g, chosen(r, g))
		if checkMore(t, g, c, places(g, at)) {
			tried++
		}
	}
	if tried < 100 || tried > 290 {
		t.Error(tried)
	}
}

// narrowed returns a span within another one.
func narrowed(r *rand.Rand, w api.Span) api.Span {
	w.Lo += r.Intn(w.Hi - w.Lo + 1)
	w.Hi -= r.Intn(w.Hi - w.Lo + 1)
	return w
}

// P5.10: with a load, or a look, that is known better nothing is returned less exactly.
func TestKnownBetter(t *testing.T) {
	r := rand.New(rand.NewSource(9))
	tried := 0
	for range 400 {
		g := withLooks(r, great(r, 8), 4)
		if len(g.Events) == 0 {
			continue
		}
		c := fresh(g)
		e := &c.Events[r.Intn(len(c.Events))]
		e.Load, e.Shows = narrowed(r, e.Load), narrowed(r, e.Shows)
		if checkMore(t, g, c, places(g, len(g.Events))) {
			tried++
		}
	}
	if tried < 100 || tried > 390 {
		t.Error(tried)
	}
}

// P5.10: after a day of rest more a road bears no less, after a pass more no more.
func TestRestAndPassMore(t *testing.T) {
	r := rand.New(rand.NewSource(10))
	for range 300 {
		g := withLooks(r, great(r, 8), 1)
		load := r.Intn(api.RoadLoad + 1)
		a, ok := ask(t, g)
		b, good := ask(t, then(g, rest(1)))
		c, fine := ask(t, then(g, pass(load, load)))
		if ok != good || ok != fine || a.few != b.few || a.few != c.few {
			t.Errorf("%+v: %v %v %v", g, ok, good, fine)
		}
		for _, n := range loads() {
			if b.bears[n] < a.bears[n] || b.rest[n] > a.rest[n] || c.bears[n] > a.bears[n] || c.rest[n] < a.rest[n] {
				t.Errorf("%+v, %d: %d %d, with rest %d %d, with %d %d %d", g, n, a.bears[n], a.rest[n], b.bears[n], b.rest[n], load, c.bears[n], c.rest[n])
			}
		}
		if b.most < a.most || c.most > a.most {
			t.Errorf("%+v: %d, with rest %d, with %d %d", g, a.most, b.most, load, c.most)
		}
	}
}

// P5.5: after as much rest as is returned the road bears the load, and after less it does not surely.
func TestRestIsEnough(t *testing.T) {
	for _, g := range anyRoads(11, 300) {
		for _, load := range loads() {
			days, e := road.Rest(g, load)
			if e == api.ErrClash || len(g.Events) == api.RoadEvents || days == 0 && e == api.OK {
				continue
			}
			enough, less := api.RoadNever, api.RoadDays
			if e == api.OK {
				enough, _ = road.Bears(then(g, rest(days)), load)
				less = days - 1
			}
			if e == api.OK && enough != api.RoadAlways {
				t.Errorf("%+v, %d: %d are not enough", g, load, days)
			}
			if less == 0 {
				continue
			}
			if n, _ := road.Bears(then(g, rest(less)), load); n == api.RoadAlways {
				t.Errorf("%+v, %d: %d %d, but %d are enough", g, load, days, e, less)
			}
		}
	}
}

// P5.10, P11: if parts are numbered otherwise only their numbers change.
func TestOrderOfParts(t *testing.T) {
	r := rand.New(rand.NewSource(12))
	for _, g := range append(anyRoads(13, 200), roadN(), turns(), three()) {
		c := fresh(g)
		order := r.Perm(len(g.Parts))
		for i, at := range order {
			c.Parts[at] = g.Parts[i]
		}
		for i := range c.Events {
			if e := &c.Events[i]; e.Kind == api.RoadLook {
				e.Part = order[e.Part]
			}
		}
		a, ok := ask(t, g)
		b, good := ask(t, c)
		want := a
		for i, at := range order {
			want.heights[at], want.sinks[at] = a.heights[i], a.sinks[i]
		}
		// Of several parts that can be lowest the first one is returned.
		if last := len(g.Events) - 1; last >= 0 && want.heights[b.weak][last].Lo == a.heights[a.weak][last].Lo || last < 0 && c.Parts[b.weak].Height.Lo == g.Parts[a.weak].Height.Lo {
			want.weak = b.weak
		}
		if ok != good || b != want {
			t.Errorf("%+v, %+v: %+v %v, %+v %v", g, c, a, ok, b, good)
		}
		in, e := road.Clash(g)
		if same, f := road.Clash(c); in != same || e != f {
			t.Errorf("%+v, %+v: %d %d, %d %d", g, c, in, e, same, f)
		}
	}
}

// P11: the order of looks without a pass or a rest in between makes no difference but to their numbers.
func TestOrderOfLooks(t *testing.T) {
	r := rand.New(rand.NewSource(14))
	swapped := 0
	for _, g := range anyRoads(15, 300) {
		c := fresh(g)
		for i := 1; i < len(c.Events); i++ {
			if c.Events[i-1].Kind == api.RoadLook && c.Events[i].Kind == api.RoadLook && r.Intn(2) == 0 {
				c.Events[i-1], c.Events[i] = c.Events[i], c.Events[i-1]
				swapped++
			}
		}
		a, ok := ask(t, g)
		if b, good := ask(t, c); ok != good || a != b {
			t.Errorf("%+v, %+v: %+v %v, %+v %v", g, c, a, ok, b, good)
		}
	}
	if swapped < 50 {
		t.Error(swapped)
	}
}

// P5.8: without all other looks those that are returned clash, and without one of them, too, the others do not.
func TestFewestClash(t *testing.T) {
	only := func(g api.Road, in int) (c api.Road) {
		c.Parts = g.Parts
		for i, e := range g.Events {
			if e.Kind != api.RoadLook || in>>i&1 == 1 {
				c.Events = append(c.Events, e)
			}
		}
		return c
	}
	clashes := 0
	for _, g := range anyRoads(16, 300) {
		in, e := road.Clash(g)
		if e != api.OK {
			continue
		}
		clashes++
		if _, f := road.Clash(only(g, in)); f != api.OK {
			t.Errorf("%+v: %d do not clash", g, in)
		}
		for i := range g.Events {
			if _, f := road.Clash(only(g, in&^(1<<i))); in>>i&1 == 1 && f != api.ErrNone {
				t.Errorf("%+v: of %d some clash", g, in)
			}
		}
	}
	if clashes < 50 {
		t.Error(clashes)
	}
}

// P11: a call leaves nothing behind that changes a later one.
func TestAgain(t *testing.T) {
	list := anyRoads(17, 60)
	var before []answers
	for _, g := range list {
		a, _ := ask(t, g)
		before = append(before, a)
	}
	for i := len(list) - 1; i >= 0; i-- {
		if a, _ := ask(t, list[i]); a != before[i] {
			t.Errorf("%+v: %+v, then %+v", list[i], before[i], a)
		}
	}
}
