package clamp_test

import (
	"math/bits"
	"math/rand"
	"testing"

	"bogworks/api"
	"bogworks/clamp"
)

func span(lo, hi int) api.Span { return api.Span{Lo: lo, Hi: hi} }

func has(w api.Span, n int) bool { return w.Lo <= n && n <= w.Hi }

// cube returns a clamp of which all is known.
func cube(long, wide, high int) api.ClampPile {
	return api.ClampPile{Long: span(long, long), Wide: span(wide, wide), High: span(high, high)}
}

// flat returns a clamp that is so long, and one foot wide and high.
func flat(lo, hi int) api.ClampPile {
	return api.ClampPile{Long: span(lo, hi), Wide: span(1, 1), High: span(1, 1)}
}

func sale(clamp, lo, hi int) api.ClampEvent {
	return api.ClampEvent{Kind: api.ClampSale, Clamp: clamp, Sods: span(lo, hi)}
}

func count(clamp, lo, hi int) api.ClampEvent {
	return api.ClampEvent{Kind: api.ClampCount, Clamp: clamp, Sods: span(lo, hi)}
}

// clamps returns clamps to which nothing happened.
func clamps(least, most int, piles ...api.ClampPile) api.Clamp {
	return api.Clamp{Piles: piles, Pack: span(least, most)}
}

// then returns clamps with events behind their own.
func then(c api.Clamp, events ...api.ClampEvent) api.Clamp {
	c.Events = append(append([]api.ClampEvent(nil), c.Events...), events...)
	return c
}

// fresh returns clamps that share no memory with others.
func fresh(c api.Clamp) api.Clamp {
	c.Piles = append([]api.ClampPile(nil), c.Piles...)
	return then(c)
}

// numbers is a number for each clamp.
type numbers [api.ClampPiles]int

// total returns the numbers of the clamps of a set, added.
func (x numbers) total(set int) (all int) {
	for i, n := range x {
		all += n * (set >> i & 1)
	}
	return all
}

// truth is how many sods each clamp had at first, has after all events, and how many were sold.
type truth struct{ first, left, sold numbers }

// everyCount returns the set of all counts.
func everyCount(c api.Clamp) (set int) {
	for i, e := range c.Events {
		if e.Kind == api.ClampCount {
			set |= 1 << i
		}
	}
	return set
}

// doubts returns where all is that is not known exactly.
func doubts(c *api.Clamp) (list []*api.Span) {
	list = append(list, &c.Pack)
	for i := range c.Piles {
		p := &c.Piles[i]
		list = append(list, &p.Long, &p.Wide, &p.High)
	}
	for i := range c.Events {
		if c.Events[i].Kind == api.ClampSale {
			list = append(list, &c.Events[i].Sods)
		}
	}
	return list
}

// spans returns what some doubts are.
func spans(doubts []*api.Span) (list []api.Span) {
	for _, w := range doubts {
		list = append(list, *w)
	}
	return list
}

// goOn returns what comes of a choice of one integer for each doubt, which counts are right then, and whether each sale can be.
func goOn(c api.Clamp, choice []int) (x truth, right int, ok bool) {
	for i := range c.Piles {
		feet := choice[1+3*i:]
		x.first[i] = feet[0] * feet[1] * feet[2] * choice[0]
	}
	x.left = x.first
	sold := choice[1+3*len(c.Piles):]
	for i, e := range c.Events {
		if e.Kind == api.ClampCount {
			if has(e.Sods, x.left[e.Clamp]) {
				right |= 1 << i
			}
			continue
		}
		if sold[0] > x.left[e.Clamp] {
			return truth{}, 0, false
		}
		x.left[e.Clamp] -= sold[0]
		x.sold[e.Clamp] += sold[0]
		sold = sold[1:]
	}
	return x, right, true
}

// choices calls f with each choice of one integer of each span.
func choices(spans []api.Span, f func(list []int)) {
	list := make([]int, len(spans))
	var choose func(i int)
	choose = func(i int) {
		if i == len(spans) {
			f(list)
			return
		}
		for n := spans[i].Lo; n <= spans[i].Hi; n++ {
			list[i] = n
			choose(i + 1)
		}
	}
	choose(0)
}

// learnt is what all truths leave: whether there is one, how many sods each clamp had, has and sold, how many those of each set have
// together, and the fewest counts that clash.
type learnt struct {
	truth             bool
	first, left, sold [api.ClampPiles]api.Span
	total             [1 << api.ClampPiles]api.Span
	clash             int
}

func wider(w *api.Span, by api.Span, first bool) {
	if first {
		*w = by
	}
	*w = span(min(w.Lo, by.Lo), max(w.Hi, by.Hi))
}

// oneByOne returns what the truths of clamps leave, one by one.
func oneByOne(c api.Clamp) (k learnt) {
	rights := map[int]bool{}
	choices(spans(doubts(&c)), func(list []int) {
		x, right, ok := goOn(c, list)
		if !ok {
			return
		}
		rights[right] = true
		if right != everyCount(c) {
			return
		}
		for i := range c.Piles {
			wider(&k.first[i], span(x.first[i], x.first[i]), !k.truth)
			wider(&k.left[i], span(x.left[i], x.left[i]), !k.truth)
			wider(&k.sold[i], span(x.sold[i], x.sold[i]), !k.truth)
		}
		for set := range 1 << len(c.Piles) {
			wider(&k.total[set], span(x.left.total(set), x.left.total(set)), !k.truth)
		}
		k.truth = true
	})
	k.clash = fewest(c, func(in int) bool {
		for right := range rights {
			if in&^right == 0 {
				return true
			}
		}
		return false
	})
	return k
}

// fewest returns the fewest counts that cannot all be right, of several the least number; 0 if all can, or if not even no counts can.
func fewest(c api.Clamp, can func(in int) bool) int {
	for many := range len(c.Events) + 1 {
		for in := range 1 << len(c.Events) {
			if bits.OnesCount(uint(in)) == many && in&^everyCount(c) == 0 && !can(in) {
				return in
			}
		}
	}
	return 0
}

// reach returns all that a clamp can have after all events that had so many sods at first, if the counts of a set are right.
func reach(c api.Clamp, of, first, in int) map[int]bool {
	can := map[int]bool{first: true}
	for i, e := range c.Events {
		next := map[int]bool{}
		for n := range can {
			switch {
			case e.Clamp != of || e.Kind == api.ClampCount && in>>i&1 == 0:
				next[n] = true
			case e.Kind == api.ClampCount:
				if has(e.Sods, n) {
					next[n] = true
				}
			default:
				for sold := e.Sods.Lo; sold <= min(n, e.Sods.Hi); sold++ {
					next[n-sold] = true
				}
			}
		}
		can = next
	}
	return can
}

// alone is what can be of one clamp by one pack, whatever the others are.
type alone struct {
	can               bool
	first, left, sold api.Span
}

// byItself returns what can be of a clamp by a pack, if the counts of a set are right.
func byItself(c api.Clamp, of, pack, in int) (a alone) {
	p := c.Piles[of]
	choices([]api.Span{p.Long, p.Wide, p.High}, func(feet []int) {
		first := feet[0] * feet[1] * feet[2] * pack
		for n := range reach(c, of, first, in) {
			wider(&a.first, span(first, first), !a.can)
			wider(&a.left, span(n, n), !a.can)
			wider(&a.sold, span(first-n, first-n), !a.can)
			a.can = true
		}
	})
	return a
}

// byPack returns what the truths of clamps leave, by each pack: then no clamp depends on the others.
func byPack(c api.Clamp) (k learnt) {
	for pack := c.Pack.Lo; pack <= c.Pack.Hi; pack++ {
		if !canBe(c, pack, everyCount(c)) {
			continue
		}
		var total [1 << api.ClampPiles]api.Span
		for i := range c.Piles {
			a := byItself(c, i, pack, everyCount(c))
			wider(&k.first[i], a.first, !k.truth)
			wider(&k.left[i], a.left, !k.truth)
			wider(&k.sold[i], a.sold, !k.truth)
			for set := range total {
				total[set].Lo += a.left.Lo * (set >> i & 1)
				total[set].Hi += a.left.Hi * (set >> i & 1)
			}
		}
		for set := range 1 << len(c.Piles) {
			wider(&k.total[set], total[set], !k.truth)
		}
		k.truth = true
	}
	if !k.truth {
		k.clash = fewest(c, func(in int) bool {
			for pack := c.Pack.Lo; pack <= c.Pack.Hi; pack++ {
				if canBe(c, pack, in) {
					return true
				}
			}
			return false
		})
	}
	return k
}

// canBe tells whether there is a truth of that pack, if the counts of a set are right.
func canBe(c api.Clamp, pack, in int) bool {
	for i := range c.Piles {
		if !byItself(c, i, pack, in).can {
			return false
		}
	}
	return true
}

// code returns the error of most functions.
func (k learnt) code() api.Errno {
	if k.truth {
		return api.OK
	}
	return api.ErrClash
}

// enough returns whether a clamp has so many sods.
func (k learnt) enough(i, n int) int {
	switch {
	case !k.truth:
		return 0
	case k.left[i].Lo >= n:
		return api.ClampAlways
	case k.left[i].Hi < n:
		return api.ClampNever
	}
	return api.ClampPerhaps
}

// share returns the fewest clamps that have so many sods together, and the error with which they are returned.
func (k learnt) share(c api.Clamp, n int) (int, api.Errno) {
	if !k.truth {
		return 0, api.ErrClash
	}
	for many := range len(c.Piles) + 1 {
		for set := range 1 << len(c.Piles) {
			if bits.OnesCount(uint(set)) == many && k.total[set].Lo >= n {
				return set, api.OK
			}
		}
	}
	return 0, api.ErrNone
}

// asked returns of how many sods it is asked: of all about which answers can change, and of the least and the most.
func (k learnt) asked() []int {
	list := map[int]bool{0: true, 4 * api.ClampSods: true}
	for _, w := range k.total {
		for _, n := range []int{w.Lo - 1, w.Lo, w.Lo + 1, w.Hi, w.Hi + 1} {
			list[max(0, min(n, 4*api.ClampSods))] = true
		}
	}
	var all []int
	for n := range list {
		all = append(all, n)
	}
	return all
}

// checkAll compares all that the package returns of valid clamps with what their truths leave.
func checkAll(t *testing.T, c api.Clamp, k learnt) {
	t.Helper()
	want := k.code()
	surely, perhaps := 0, 0
	for i := range c.Piles {
		checkClamp(t, c, k, i)
		if k.truth && k.left[i].Hi == 0 {
			surely |= 1 << i
		}
		if k.truth && k.left[i].Lo == 0 {
			perhaps |= 1 << i
		}
	}
	if w, e := clamp.All(c); w != k.total[1<<len(c.Piles)-1] || e != want {
		t.Errorf("All %+v: %v %d, want %v %d", c, w, e, k.total[1<<len(c.Piles)-1], want)
	}
	if s, p, e := clamp.Empty(c); s != surely || p != perhaps || e != want {
		t.Errorf("Empty %+v: %b %b %d, want %b %b %d", c, s, p, e, surely, perhaps, want)
	}
	for _, n := range k.asked() {
		set, want := k.share(c, n)
		if s, e := clamp.Share(c, n); s != set || e != want {
			t.Errorf("Share %+v, %d: %b %d, want %b %d", c, n, s, e, set, want)
		}
	}
	want = api.ErrNone
	if !k.truth {
		want = api.OK
	}
	if n, e := clamp.Clash(c); n != k.clash || e != want {
		t.Errorf("Clash %+v: %b %d, want %b %d", c, n, e, k.clash, want)
	}
}

// checkClamp compares what is returned of one clamp.
func checkClamp(t *testing.T, c api.Clamp, k learnt, i int) {
	t.Helper()
	want := k.code()
	if w, e := clamp.Built(c, i); w != k.first[i] || e != want {
		t.Errorf("Built %+v, %d: %v %d, want %v %d", c, i, w, e, k.first[i], want)
	}
	if w, e := clamp.Has(c, i); w != k.left[i] || e != want {
		t.Errorf("Has %+v, %d: %v %d, want %v %d", c, i, w, e, k.left[i], want)
	}
	if w, e := clamp.Sold(c, i); w != k.sold[i] || e != want {
		t.Errorf("Sold %+v, %d: %v %d, want %v %d", c, i, w, e, k.sold[i], want)
	}
	for _, n := range k.asked() {
		if y, e := clamp.Enough(c, i, n); y != k.enough(i, n) || e != want {
			t.Errorf("Enough %+v, %d, %d: %d %d, want %d %d", c, i, n, y, e, k.enough(i, n), want)
		}
	}
}

// someSpan returns a span within two numbers, at most so wide.
func someSpan(r *rand.Rand, from, to, wide int) api.Span {
	lo := from + r.Intn(to-from+1)
	return span(lo, min(to, lo+r.Intn(wide+1)))
}

// around returns a span that contains a number, and lies within 0 to ClampSods.
func around(r *rand.Rand, n, below, above int) api.Span {
	return span(max(0, n-r.Intn(below+1)), min(api.ClampSods, n+r.Intn(above+1)))
}

// great returns clamps of any size to which nothing happened.
func great(r *rand.Rand) (c api.Clamp) {
	feet := []int{2, 3, api.ClampFeet}[r.Intn(3)]
	near := r.Intn(api.ClampNear + 1)
	c.Pack = someSpan(r, 1, api.ClampPack, r.Intn(api.ClampPacks+1))
	for range 1 + r.Intn(api.ClampPiles) {
		c.Piles = append(c.Piles, api.ClampPile{Long: someSpan(r, 1, feet, near), Wide: someSpan(r, 1, feet, near), High: someSpan(r, 1, feet, near)})
	}
	return c
}

// chosen returns one choice for each doubt.
func chosen(r *rand.Rand, c api.Clamp) (list []int) {
	for _, w := range doubts(&c) {
		list = append(list, w.Lo+r.Intn(w.Hi-w.Lo+1))
	}
	return list
}

// begin returns what is true of clamps to which nothing happened, by a choice.
func begin(r *rand.Rand, c api.Clamp) truth {
	x, _, _ := goOn(c, chosen(r, c))
	return x
}

// sell returns a sale that can be in a truth, to which it is added. Often all is sold, or nothing.
func sell(r *rand.Rand, x *truth, of int) api.ClampEvent {
	n := x.left[of]
	switch r.Intn(4) {
	case 0:
	case 1:
		n = min(n, r.Intn(4))
	default:
		n = r.Intn(n + 1)
	}
	x.left[of] -= n
	x.sold[of] += n
	lo := max(0, n-r.Intn(api.ClampSales+1))
	return sale(of, lo, max(n, min(lo+r.Intn(api.ClampSales+1), api.ClampSods)))
}

// look returns a count that is right in a truth.
func look(r *rand.Rand, x truth, of int) api.ClampEvent {
	wide := []int{0, 2, 20, 1000}[r.Intn(4)]
	return api.ClampEvent{Kind: api.ClampCount, Clamp: of, Sods: around(r, x.left[of], wide, wide)}
}

// happen returns an event that can be in a truth, to which it is added.
func happen(r *rand.Rand, c api.Clamp, x *truth) api.ClampEvent {
	of := r.Intn(len(c.Piles))
	if r.Intn(2) == 0 {
		return sell(r, x, of)
	}
	return look(r, *x, of)
}

// amiss returns an event that can be anything.
func amiss(r *rand.Rand, c api.Clamp, x truth) api.ClampEvent {
	of := r.Intn(len(c.Piles))
	n := min(r.Intn(x.first[of]+3), api.ClampSods)
	if r.Intn(4) == 0 {
		n = r.Intn(api.ClampSods + 1)
	}
	if r.Intn(2) == 0 {
		return sale(of, n, min(n+r.Intn(api.ClampSales+1), api.ClampSods))
	}
	return count(of, n, min(n+r.Intn(9), api.ClampSods))
}

// withEvents returns clamps with up to so many events, most of which can be in one truth.
func withEvents(r *rand.Rand, c api.Clamp, many int) api.Clamp {
	x := begin(r, c)
	for range r.Intn(many + 1) {
		if r.Intn(10) == 0 {
			c = then(c, amiss(r, c, x))
		} else {
			c = then(c, happen(r, c, &x))
		}
	}
	return c
}

// anyClamps returns clamps with events, the same in each run.
func anyClamps(seed int64, many int) (list []api.Clamp) {
	r := rand.New(rand.NewSource(seed))
	for range many {
		list = append(list, withEvents(r, great(r), api.ClampEvents))
	}
	return list
}

// fewTruths returns clamps with events that leave up to 3000 choices, the same in each run.
func fewTruths(seed int64, many int) (list []api.Clamp) {
	r := rand.New(rand.NewSource(seed))
	for len(list) < many {
		c := withEvents(r, great(r), api.ClampEvents)
		n := 1
		for _, w := range spans(doubts(&c)) {
			n *= w.Hi - w.Lo + 1
		}
		if n <= 3000 {
			list = append(list, c)
		}
	}
	return list
}
