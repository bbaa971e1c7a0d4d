package cut_test

import (
	"math/bits"
	"math/rand"
	"testing"

	"bogworks/api"
	"bogworks/cut"
)

func span(lo, hi int) api.Span { return api.Span{Lo: lo, Hi: hi} }

func has(w api.Span, n int) bool { return w.Lo <= n && n <= w.Hi }

// boat returns a boat by the ends of its Draws, its Per and its Room.
func boat(lo, hi, per, room int) api.CutBoat {
	return api.CutBoat{Draws: span(lo, hi), Per: per, Room: room}
}

func look(day, lo, hi int) api.CutLook { return api.CutLook{Day: day, Depth: span(lo, hi)} }

// water returns a cut without boats and looks.
func water(depth, leak api.Span, most int, rain ...api.Span) api.Cut {
	return api.Cut{Depth: depth, Leak: leak, Rain: rain, Most: most}
}

// aboard returns a cut with other boats.
func aboard(c api.Cut, boats ...api.CutBoat) api.Cut {
	c.Boats = boats
	return c
}

// then returns a cut with looks behind its own.
func then(c api.Cut, looks ...api.CutLook) api.Cut {
	c.Looks = append(append([]api.CutLook(nil), c.Looks...), looks...)
	return c
}

// days returns how many days a cut has.
func days(c api.Cut) int { return len(c.Rain) + 1 }

// later returns the depth a day later, unit by unit.
func later(depth, rain, leak, most int) int {
	more := rain - leak
	for ; more > 0 && depth < most; more-- {
		depth++
	}
	for ; more < 0 && depth > 0; more++ {
		depth--
	}
	return depth
}

// truth is how deep the water is each day, what leaks away, what boats draw, and which looks are right.
type truth struct {
	depths [api.CutDays + 1]int
	leak   int
	draws  []int
	right  int
}

// doubts returns all that is not known exactly.
func doubts(c api.Cut) []api.Span {
	list := append([]api.Span{c.Depth, c.Leak}, c.Rain...)
	for _, b := range c.Boats {
		list = append(list, b.Draws)
	}
	return list
}

// goOn returns what comes of a choice of one integer for each doubt of a cut.
func goOn(c api.Cut, choice []int) (x truth) {
	x.depths[0], x.leak = choice[0], choice[1]
	for day := range c.Rain {
		x.depths[day+1] = later(x.depths[day], choice[2+day], x.leak, c.Most)
	}
	x.draws = append(x.draws, choice[2+len(c.Rain):]...)
	for i, l := range c.Looks {
		if has(l.Depth, x.depths[l.Day]) {
			x.right |= 1 << i
		}
	}
	return x
}

// floats tells whether a boat floats that draws so much, load by load.
func floats(depth, draws, per, loads int) bool {
	for range loads {
		draws += per
	}
	return depth >= draws
}

// choices calls f with each choice of one integer of each span.
func choices(spans []api.Span, f func(list []int)) {
	list := make([]int, len(spans))
	var choose func(i int)
	choose = func(i int) {
		if i == len(spans) {
			f(list)
			return
		}
		for n := spans[i].Lo; n <= spans[i].Hi; n++ {
			list[i] = n
			choose(i + 1)
		}
	}
	choose(0)
}

// verdict is whether something was so, and whether it was not, in some truth.
type verdict struct{ yes, no bool }

func (v *verdict) add(so bool) { v.yes, v.no = v.yes || so, v.no || !so }

// learnt is what all truths leave: whether there is one, how deep the water was, what leaked away, whether boats floated with loads,
// and the fewest looks that clash.
type learnt struct {
	truth  bool
	depths [api.CutDays + 1]api.Span
	leak   api.Span
	floats [api.CutBoats][api.CutRoom + 1][api.CutDays + 1]verdict
	clash  int
}

func wider(w *api.Span, n int, first bool) {
	if first {
		*w = span(n, n)
	}
	*w = span(min(w.Lo, n), max(w.Hi, n))
}

// addFloats adds that the water can be so deep on a day.
func (k *learnt) addFloats(c api.Cut, i, draws, day, depth int) {
	for loads := range c.Boats[i].Room + 1 {
		k.floats[i][loads][day].add(floats(depth, draws, c.Boats[i].Per, loads))
	}
}

// oneByOne returns what the truths of a cut leave, one by one.
func oneByOne(c api.Cut) (k learnt) {
	rights := map[int]bool{}
	choices(doubts(c), func(list []int) {
		x := goOn(c, list)
		rights[x.right] = true
		if x.right != 1<<len(c.Looks)-1 {
			return
		}
		for day := range days(c) {
			wider(&k.depths[day], x.depths[day], !k.truth)
			for i, draws := range x.draws {
				k.addFloats(c, i, draws, day, x.depths[day])
			}
		}
		wider(&k.leak, x.leak, !k.truth)
		k.truth = true
	})
	k.clash = fewest(c, func(in int) bool {
		for right := range rights {
			if in&^right == 0 {
				return true
			}
		}
		return false
	})
	return k
}

// fewest returns the fewest looks that cannot all be right, of several the least number; 0 if all can.
func fewest(c api.Cut, can func(in int) bool) int {
	for many := range len(c.Looks) + 1 {
		for in := range 1 << len(c.Looks) {
			if bits.OnesCount(uint(in)) == many && !can(in) {
				return in
			}
		}
	}
	return 0
}

// levels is which depths the water can have each day.
type levels [api.CutDays + 1][api.CutDepth + 1]bool

// seen leaves of the depths of a day those with which the looks of a set are right, and tells whether there are any.
func (l *levels) seen(c api.Cut, day, in int) (any bool) {
	for depth := range l[day] {
		for i, x := range c.Looks {
			if in>>i&1 == 1 && x.Day == day && !has(x.Depth, depth) {
				l[day][depth] = false
			}
		}
		any = any || l[day][depth]
	}
	return any
}

// levelsOf returns which depths the water can have each day with one leak, and with a set of looks, and whether there is a truth.
func levelsOf(c api.Cut, leak, in int) (l levels, ok bool) {
	for depth := c.Depth.Lo; depth <= c.Depth.Hi; depth++ {
		l[0][depth] = true
	}
	ok = l.seen(c, 0, in)
	steps := func(day int, f func(from, to int)) {
		for depth := range l[day] {
			for rain := c.Rain[day].Lo; l[day][depth] && rain <= c.Rain[day].Hi; rain++ {
				f(depth, later(depth, rain, leak, c.Most))
			}
		}
	}
	for day := range c.Rain {
		steps(day, func(_, to int) { l[day+1][to] = true })
		ok = l.seen(c, day+1, in) && ok
	}
	for day := len(c.Rain) - 1; day >= 0; day-- {
		var leads [api.CutDepth + 1]bool
		steps(day, func(from, to int) { leads[from] = leads[from] || l[day+1][to] })
		l[day] = leads
	}
	return l, ok
}

// byDepths returns what the truths of a cut leave, by all depths that the water can have with each leak.
func byDepths(c api.Cut) (k learnt) {
	for leak := c.Leak.Lo; leak <= c.Leak.Hi; leak++ {
		l, ok := levelsOf(c, leak, 1<<len(c.Looks)-1)
		if !ok {
			continue
		}
		for day := range days(c) {
			k.addDepths(c, day, l[day])
		}
		wider(&k.leak, leak, !k.truth)
		k.truth = true
	}
	if k.truth {
		return k
	}
	k.clash = fewest(c, func(in int) bool {
		for leak := c.Leak.Lo; leak <= c.Leak.Hi; leak++ {
			if _, ok := levelsOf(c, leak, in); ok {
				return true
			}
		}
		return false
	})
	return k
}

// addDepths adds which depths the water can have on a day with one leak; there must be one.
func (k *learnt) addDepths(c api.Cut, day int, level [api.CutDepth + 1]bool) {
	first := !k.truth
	for depth, can := range level {
		if !can {
			continue
		}
		wider(&k.depths[day], depth, first)
		first = false
		for i, b := range c.Boats {
			for draws := b.Draws.Lo; draws <= b.Draws.Hi; draws++ {
				k.addFloats(c, i, draws, day, depth)
			}
		}
	}
}

// code returns the error of all functions but Clash.
func (k learnt) code() api.Errno {
	if k.truth {
		return api.OK
	}
	return api.ErrClash
}

// whether returns whether something is always so, perhaps, or never.
func (v verdict) whether() int {
	switch {
	case v.yes && !v.no:
		return api.CutAlways
	case v.yes:
		return api.CutPerhaps
	}
	return api.CutNever
}

// most returns with how many loads a boat floats at most on a day, at least so surely.
func (k learnt) most(c api.Cut, i, day, sure int) int {
	most := -1
	for loads := range c.Boats[i].Room + 1 {
		if k.floats[i][loads][day].whether() >= sure {
			most = loads
		}
	}
	return most
}

// on returns the days on which a boat floats with so many loads, at least so surely.
func (k learnt) on(c api.Cut, i, loads, sure int) (set int) {
	for day := range days(c) {
		if k.floats[i][loads][day].whether() >= sure {
			set |= 1 << day
		}
	}
	return set
}

// checkAll compares all that the package returns of a valid cut with what its truths leave.
func checkAll(t *testing.T, c api.Cut, k learnt) {
	t.Helper()
	want := k.code()
	for day := range days(c) {
		if w, e := cut.Depth(c, day); w != k.depths[day] || e != want {
			t.Errorf("Depth %+v, %d: %v %d, want %v %d", c, day, w, e, k.depths[day], want)
		}
		checkDay(t, c, k, day)
	}
	if w, e := cut.Leak(c); w != k.leak || e != want {
		t.Errorf("Leak %+v: %v %d, want %v %d", c, w, e, k.leak, want)
	}
	for i := range c.Boats {
		for loads := range c.Boats[i].Room + 1 {
			checkLoads(t, c, k, i, loads)
		}
	}
	want = api.ErrNone
	if !k.truth {
		want = api.OK
	}
	if n, e := cut.Clash(c); n != k.clash || e != want {
		t.Errorf("Clash %+v: %d %d, want %d %d", c, n, e, k.clash, want)
	}
}

// checkDay compares how many loads boats can have on a day.
func checkDay(t *testing.T, c api.Cut, k learnt, day int) {
	t.Helper()
	want, sum := k.code(), 0
	for i := range c.Boats {
		a, b := k.most(c, i, day, api.CutAlways), k.most(c, i, day, api.CutPerhaps)
		if !k.truth {
			a, b = 0, 0
		}
		sum += max(0, a)
		if s, p, e := cut.Loads(c, i, day); s != a || p != b || e != want {
			t.Errorf("Loads %+v, %d, %d: %d %d %d, want %d %d %d", c, i, day, s, p, e, a, b, want)
		}
	}
	if n, e := cut.Together(c, day); n != sum || e != want {
		t.Errorf("Together %+v, %d: %d %d, want %d %d", c, day, n, e, sum, want)
	}
}

// checkLoads compares when a boat floats with so many loads.
func checkLoads(t *testing.T, c api.Cut, k learnt, i, loads int) {
	t.Helper()
	want := k.code()
	a, b := k.on(c, i, loads, api.CutAlways), k.on(c, i, loads, api.CutPerhaps)
	if s, p, e := cut.Days(c, i, loads); s != a || p != b || e != want {
		t.Errorf("Days %+v, %d, %d: %b %b %d, want %b %b %d", c, i, loads, s, p, e, a, b, want)
	}
	for day := range days(c) {
		how := k.floats[i][loads][day].whether()
		if n, e := cut.Floats(c, i, loads, day); n != how || e != want {
			t.Errorf("Floats %+v, %d, %d, %d: %d %d, want %d %d", c, i, loads, day, n, e, how, want)
		}
		next, want := 0, want
		if from := a >> day; from != 0 {
			next = day + bits.TrailingZeros(uint(from))
		} else if k.truth {
			want = api.ErrNone
		}
		if n, e := cut.Until(c, i, loads, day); n != next || e != want {
			t.Errorf("Until %+v, %d, %d, %d: %d %d, want %d %d", c, i, loads, day, n, e, next, want)
		}
	}
}

// someSpan returns a span within two numbers, at most so wide.
func someSpan(r *rand.Rand, from, to, wide int) api.Span {
	lo := from + r.Intn(to-from+1)
	return span(lo, min(to, lo+r.Intn(wide+1)))
}

// great returns a cut of any size, without looks; its water often is held at the rim, or at the bottom.
func great(r *rand.Rand) api.Cut {
	wide := []int{0, 1, 3, 100}[r.Intn(4)]
	most := 1 + r.Intn([]int{5, 30, api.CutDepth}[r.Intn(3)])
	heavy := []int{3, 10, api.CutRain}[r.Intn(3)]
	c := water(someSpan(r, 0, most, wide), someSpan(r, 0, []int{3, api.CutLeak}[r.Intn(2)], wide), most)
	for range 1 + r.Intn(api.CutDays) {
		c.Rain = append(c.Rain, someSpan(r, 0, heavy, wide))
	}
	for range r.Intn(api.CutBoats + 1) {
		c.Boats = append(c.Boats, api.CutBoat{Draws: someSpan(r, 0, min(most+1, api.CutDepth), wide), Per: r.Intn(api.CutPer + 1), Room: r.Intn(api.CutRoom + 1)})
	}
	return c
}

// chosen returns one choice for each doubt of a cut.
func chosen(r *rand.Rand, c api.Cut) (list []int) {
	for _, w := range doubts(c) {
		list = append(list, w.Lo+r.Intn(w.Hi-w.Lo+1))
	}
	return list
}

// lookMore returns a cut with a look more that is right by a choice.
func lookMore(r *rand.Rand, c api.Cut, choice []int) api.Cut {
	day := r.Intn(days(c))
	n := goOn(c, choice).depths[day]
	return then(c, look(day, max(0, n-r.Intn(2)), min(api.CutDepth, n+r.Intn(3))))
}

// withLooks returns a cut with up to so many looks, which often are right by one choice.
func withLooks(r *rand.Rand, c api.Cut, many int) api.Cut {
	x := chosen(r, c)
	for range r.Intn(many + 1) {
		if r.Intn(2) == 0 {
			x = chosen(r, c)
		}
		c = lookMore(r, c, x)
		if r.Intn(8) == 0 {
			c.Looks[len(c.Looks)-1].Depth = someSpan(r, 0, min(c.Most+1, api.CutDepth), 30)
		}
	}
	return c
}

// truths returns how many choices a cut leaves, or more than so many.
func truths(c api.Cut, most int) int {
	n := 1
	for _, w := range doubts(c) {
		if n *= w.Hi - w.Lo + 1; n > most {
			break
		}
	}
	return n
}

// anyCuts returns cuts with looks, the same in each run.
func anyCuts(seed int64, many int) (list []api.Cut) {
	r := rand.New(rand.NewSource(seed))
	for range many {
		list = append(list, withLooks(r, great(r), api.CutLooks))
	}
	return list
}

// smallCuts returns cuts with looks that leave up to 2000 choices, the same in each run.
func smallCuts(seed int64, many int) (list []api.Cut) {
	r := rand.New(rand.NewSource(seed))
	for len(list) < many {
		if c := great(r); truths(c, 2000) <= 2000 {
			list = append(list, withLooks(r, c, api.CutLooks))
		}
	}
	return list
}
