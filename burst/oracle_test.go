package burst_test

import (
	"math/bits"
	"math/rand"
	"testing"

	"bogworks/api"
	"bogworks/burst"
)

func span(lo, hi int) api.Span { return api.Span{Lo: lo, Hi: hi} }

func has(w api.Span, n int) bool { return w.Lo <= n && n <= w.Hi }

// bank returns a bank by the ends of its Bears and of its Cut.
func bank(least, most, few, many int) api.BurstBank {
	return api.BurstBank{Bears: span(least, most), Cut: span(few, many)}
}

func crack(bank, day int) api.BurstSign {
	return api.BurstSign{Kind: api.BurstCrack, Bank: bank, Day: day}
}

func swell(bank, day int) api.BurstSign {
	return api.BurstSign{Kind: api.BurstSwell, Bank: bank, Day: day}
}

func brown(day int) api.BurstSign { return api.BurstSign{Kind: api.BurstBrown, Day: day} }

// bog returns a bog without signs.
func bog(water api.Span, drain int, rain []api.Span, banks ...api.BurstBank) api.Burst {
	return api.Burst{Banks: banks, Water: water, Rain: rain, Drain: drain}
}

// then returns a bog with signs behind its own.
func then(b api.Burst, signs ...api.BurstSign) api.Burst {
	b.Signs = append(append([]api.BurstSign(nil), b.Signs...), signs...)
	return b
}

// fresh returns a bog that shares no memory with another one.
func fresh(b api.Burst) api.Burst {
	b.Banks = append([]api.BurstBank(nil), b.Banks...)
	b.Rain = append([]api.Span(nil), b.Rain...)
	return then(b)
}

// days returns how many days a bog has.
func days(b api.Burst) int { return len(b.Rain) + 1 }

// truth is how much each bank bears, less what is cut at its foot, and how much water there is each day.
type truth struct {
	bears [api.BurstBanks]int
	water [api.BurstDays + 1]int
}

// margin returns how much more a bank bears on a day.
func (x truth) margin(bank, day int) int { return x.bears[bank] - x.water[day] }

// right tells whether a sign is right.
func (x truth) right(s api.BurstSign) bool {
	switch s.Kind {
	case api.BurstCrack:
		return has(span(0, 10), x.margin(s.Bank, s.Day))
	case api.BurstSwell:
		return has(span(0, 5), x.margin(s.Bank, s.Day))
	}
	return x.water[s.Day] >= 15
}

// rightOf returns which signs of a bog are right.
func (x truth) rightOf(b api.Burst) (set int) {
	for i, s := range b.Signs {
		if x.right(s) {
			set |= 1 << i
		}
	}
	return set
}

// all returns the set of all signs of a bog.
func all(b api.Burst) int { return 1<<len(b.Signs) - 1 }

// doubts returns where all is that is not known exactly.
func doubts(b *api.Burst) (list []*api.Span) {
	list = append(list, &b.Water)
	for i := range b.Rain {
		list = append(list, &b.Rain[i])
	}
	for i := range b.Banks {
		list = append(list, &b.Banks[i].Bears, &b.Banks[i].Cut)
	}
	return list
}

// spans returns what some doubts are.
func spans(doubts []*api.Span) (list []api.Span) {
	for _, w := range doubts {
		list = append(list, *w)
	}
	return list
}

// rise returns how much water there is each day, by how much there is at first and how much it rains.
func rise(b api.Burst, choice []int) (water [api.BurstDays + 1]int) {
	water[0] = choice[0]
	for day := range b.Rain {
		water[day+1] = water[day] + choice[1+day] - b.Drain
	}
	return water
}

// goOn returns what comes of a choice of one integer for each doubt of a bog.
func goOn(b api.Burst, choice []int) (x truth) {
	x.water = rise(b, choice)
	of := choice[days(b):]
	for i := range b.Banks {
		x.bears[i] = of[2*i] - of[2*i+1]
	}
	return x
}

// choices calls f with each choice of one integer of each span.
func choices(spans []api.Span, f func(list []int)) {
	list := make([]int, len(spans))
	var choose func(i int)
	choose = func(i int) {
		if i == len(spans) {
			f(list)
			return
		}
		for n := spans[i].Lo; n <= spans[i].Hi; n++ {
			list[i] = n
			choose(i + 1)
		}
	}
	choose(0)
}

// verdict is whether something was so, and whether it was not, in some truth.
type verdict struct{ yes, no bool }

func (v *verdict) add(yes, no bool) { v.yes, v.no = v.yes || yes, v.no || no }

// whether returns whether something is always so, perhaps, or never.
func (v verdict) whether() int {
	switch {
	case v.yes && !v.no:
		return api.BurstAlways
	case v.yes:
		return api.BurstPerhaps
	}
	return api.BurstNever
}

// learnt is what all truths leave: whether there is one, how much water there was, which margins banks had, whether they moved, whether
// the bog was safe, and the fewest signs that clash.
type learnt struct {
	truth  bool
	water  [api.BurstDays + 1]api.Span
	margin [api.BurstBanks][api.BurstDays + 1]api.Span
	moves  [api.BurstBanks][api.BurstDays + 1]verdict
	safe   [api.BurstDays + 1]verdict
	clash  int
}

func wider(w *api.Span, by api.Span, first bool) {
	if first {
		*w = by
	}
	*w = span(min(w.Lo, by.Lo), max(w.Hi, by.Hi))
}

// course is some truths that have the same water: how much there is each day, and how much each bank can bear, whatever others do.
type course struct {
	water [api.BurstDays + 1]int
	bears [api.BurstBanks]api.Span
}

// add adds the truths of a course.
func (k *learnt) add(b api.Burst, c course) {
	surely, perhaps := true, true
	for day := range days(b) {
		water := c.water[day]
		wider(&k.water[day], span(water, water), !k.truth)
		for i := range b.Banks {
			w := c.bears[i]
			wider(&k.margin[i][day], span(w.Lo-water, w.Hi-water), !k.truth)
			k.moves[i][day].add(w.Lo < water, w.Hi >= water)
			surely, perhaps = surely && w.Lo >= water, perhaps && w.Hi >= water
		}
		// Each bank bears what it does whatever others do: that the bog is safe needs the most of each, that it is not the least of one.
		k.safe[day].add(perhaps, !surely)
	}
	k.truth = true
}

// oneByOne returns what the truths of a bog leave, one by one.
func oneByOne(b api.Burst) (k learnt) {
	rights := map[int]bool{}
	choices(spans(doubts(&b)), func(list []int) {
		x := goOn(b, list)
		rights[x.rightOf(b)] = true
		if x.rightOf(b) == all(b) {
			c := course{water: x.water}
			for i, n := range x.bears {
				c.bears[i] = span(n, n)
			}
			k.add(b, c)
		}
	})
	k.clash = fewest(b, func(in int) bool {
		for right := range rights {
			if in&^right == 0 {
				return true
			}
		}
		return false
	})
	return k
}

// fewest returns the fewest signs that cannot all be right, of several the least number; 0 if all can.
func fewest(b api.Burst, can func(in int) bool) int {
	for many := range len(b.Signs) + 1 {
		for in := range 1 << len(b.Signs) {
			if bits.OnesCount(uint(in)) == many && !can(in) {
				return in
			}
		}
	}
	return 0
}

// bears returns how much each bank can bear if there is so much water each day, and the signs of a set are right, and whether they can
// be so.
func bears(b api.Burst, water [api.BurstDays + 1]int, in int) (can [api.BurstBanks]api.Span, ok bool) {
	for i, x := range b.Banks {
		can[i] = span(x.Bears.Lo-x.Cut.Hi, x.Bears.Hi-x.Cut.Lo)
	}
	for i, s := range b.Signs {
		n := water[s.Day]
		switch {
		case in>>i&1 == 0:
		case s.Kind == api.BurstBrown:
			if n < 15 {
				return can, false
			}
		default:
			most := map[int]int{api.BurstCrack: 10, api.BurstSwell: 5}[s.Kind]
			w := &can[s.Bank]
			*w = span(max(w.Lo, n), min(w.Hi, n+most))
			if w.Lo > w.Hi {
				return can, false
			}
		}
	}
	return can, true
}

// byWater returns what the truths of a bog leave, by all courses of the water.
func byWater(b api.Burst) (k learnt) {
	can := make([]bool, all(b)+1)
	choices(spans(doubts(&b)[:days(b)]), func(list []int) {
		c := course{water: rise(b, list)}
		var ok bool
		if c.bears, ok = bears(b, c.water, all(b)); ok {
			k.add(b, c)
		}
		for in := range can {
			if !k.truth && !can[in] {
				_, can[in] = bears(b, c.water, in)
			}
		}
	})
	if !k.truth {
		k.clash = fewest(b, func(in int) bool { return can[in] })
	}
	return k
}

// code returns the error of most functions.
func (k learnt) code() api.Errno {
	if k.truth {
		return api.OK
	}
	return api.ErrClash
}

// worst returns the least margin of a bank up to a day.
func (k learnt) worst(bank, day int) int {
	least := k.margin[bank][0].Lo
	for d := range day + 1 {
		least = min(least, k.margin[bank][d].Lo)
	}
	return least
}

// firstOf returns the bank that is to be left first, and the error with which it is returned.
func (k learnt) firstOf(b api.Burst, day int) (bank int, e api.Errno) {
	if !k.truth {
		return 0, api.ErrClash
	}
	if k.safe[day].whether() == api.BurstAlways {
		return 0, api.ErrNone
	}
	for i := range b.Banks {
		if k.worst(i, day) < k.worst(bank, day) {
			bank = i
		}
	}
	return bank, api.OK
}

// untilOf returns the last day up to which the bog surely is safe, and the error with which it is returned.
func (k learnt) untilOf(b api.Burst) (day int, e api.Errno) {
	if !k.truth {
		return 0, api.ErrClash
	}
	for day = range days(b) {
		if k.safe[day].whether() != api.BurstAlways {
			break
		}
		if day == len(b.Rain) {
			return day, api.OK
		}
	}
	if day == 0 {
		return 0, api.ErrNone
	}
	return day - 1, api.OK
}

// spareOf returns how much more can be cut at the foot of a bank, and the error with which it is returned.
func (k learnt) spareOf(b api.Burst, bank int) (more int, e api.Errno) {
	if !k.truth {
		return 0, api.ErrClash
	}
	for day := range days(b) {
		if k.moves[bank][day].yes {
			return 0, api.ErrNone
		}
	}
	return k.worst(bank, len(b.Rain)), api.OK
}

// checkAll compares all that the package returns of a valid bog with what its truths leave.
func checkAll(t *testing.T, b api.Burst, k learnt) {
	t.Helper()
	for day := range days(b) {
		checkDay(t, b, k, day)
	}
	for i := range b.Banks {
		more, want := k.spareOf(b, i)
		if n, e := burst.Spare(b, i); n != more || e != want {
			t.Errorf("Spare %+v, %d: %d %d, want %d %d", b, i, n, e, more, want)
		}
	}
	day, want := k.untilOf(b)
	if n, e := burst.Until(b); n != day || e != want {
		t.Errorf("Until %+v: %d %d, want %d %d", b, n, e, day, want)
	}
	want = api.ErrNone
	if !k.truth {
		want = api.OK
	}
	if n, e := burst.Clash(b); n != k.clash || e != want {
		t.Errorf("Clash %+v: %b %d, want %b %d", b, n, e, k.clash, want)
	}
}

// checkDay compares what is returned of a day.
func checkDay(t *testing.T, b api.Burst, k learnt, day int) {
	t.Helper()
	want := k.code()
	if w, e := burst.Water(b, day); w != k.water[day] || e != want {
		t.Errorf("Water %+v, %d: %v %d, want %v %d", b, day, w, e, k.water[day], want)
	}
	surely, perhaps := 0, 0
	for i := range b.Banks {
		if w, e := burst.Margin(b, i, day); w != k.margin[i][day] || e != want {
			t.Errorf("Margin %+v, %d, %d: %v %d, want %v %d", b, i, day, w, e, k.margin[i][day], want)
		}
		v := k.moves[i][day]
		if v.whether() == api.BurstAlways {
			surely |= 1 << i
		}
		if v.yes {
			perhaps |= 1 << i
		}
	}
	if s, p, e := burst.Moves(b, day); s != surely || p != perhaps || e != want {
		t.Errorf("Moves %+v, %d: %b %b %d, want %b %b %d", b, day, s, p, e, surely, perhaps, want)
	}
	if n, e := burst.Safe(b, day); n != k.safe[day].whether() || e != want {
		t.Errorf("Safe %+v, %d: %d %d, want %d %d", b, day, n, e, k.safe[day].whether(), want)
	}
	i, want := k.firstOf(b, day)
	if n, e := burst.First(b, day); n != i || e != want {
		t.Errorf("First %+v, %d: %d %d, want %d %d", b, day, n, e, i, want)
	}
}

// someSpan returns a span within two numbers, at most so wide.
func someSpan(r *rand.Rand, from, to, wide int) api.Span {
	lo := from + r.Intn(to-from+1)
	return span(lo, min(to, lo+r.Intn(wide+1)))
}

// great returns a bog of any size, without signs; its banks often bear about as much as there is water on some day.
func great(r *rand.Rand) (b api.Burst) {
	wide := []int{0, 1, 3, 100}[r.Intn(4)]
	wet := []int{3, 10, api.BurstRain}[r.Intn(3)]
	b = bog(someSpan(r, -api.BurstWater, api.BurstWater, wide), r.Intn([]int{3, 10, api.BurstDrain + 1}[r.Intn(3)]), nil)
	if r.Intn(3) > 0 {
		b.Water = someSpan(r, 0, 25, wide)
	}
	for range 1 + r.Intn(api.BurstDays) {
		b.Rain = append(b.Rain, someSpan(r, 0, wet, wide))
	}
	for range 1 + r.Intn(api.BurstBanks) {
		x := api.BurstBank{Bears: someSpan(r, 0, api.BurstBears, wide), Cut: someSpan(r, 0, api.BurstCut, wide)}
		if r.Intn(4) > 0 {
			n := rise(b, chosen(r, b))[r.Intn(days(b))] + x.Cut.Lo + r.Intn(9) - 3
			n = max(0, min(n, api.BurstBears))
			x.Bears = someSpan(r, n, min(n+wide, api.BurstBears), wide)
		}
		b.Banks = append(b.Banks, x)
	}
	return b
}

// chosen returns one choice for each doubt of a bog.
func chosen(r *rand.Rand, b api.Burst) (list []int) {
	for _, w := range doubts(&b) {
		list = append(list, w.Lo+r.Intn(w.Hi-w.Lo+1))
	}
	return list
}

// anySign returns a valid sign, which need not be right. That of brown water often is of no bank.
func anySign(r *rand.Rand, b api.Burst) api.BurstSign {
	s := api.BurstSign{Kind: r.Intn(3), Bank: r.Intn(len(b.Banks)), Day: r.Intn(days(b))}
	if s.Kind == api.BurstBrown {
		s.Bank = r.Intn(9) - 4
	}
	return s
}

// seeMore returns a bog with a sign more that is right in a truth, if one is found.
func seeMore(r *rand.Rand, b api.Burst, x truth) api.Burst {
	for range 10 {
		if s := anySign(r, b); x.right(s) {
			return then(b, s)
		}
	}
	return b
}

// withSigns returns a bog with up to so many signs, which often are right in one truth.
func withSigns(r *rand.Rand, b api.Burst, many int) api.Burst {
	x := goOn(b, chosen(r, b))
	for range r.Intn(many + 1) {
		if r.Intn(4) == 0 {
			x = goOn(b, chosen(r, b))
		}
		if r.Intn(15) == 0 {
			b = then(b, anySign(r, b))
		} else {
			b = seeMore(r, b, x)
		}
	}
	return b
}

// atMost tells whether spans leave at most so many choices.
func atMost(most int, list []api.Span) bool {
	n := 1
	for _, w := range list {
		if n *= w.Hi - w.Lo + 1; n > most {
			return false
		}
	}
	return true
}

// anyBogs returns bogs with signs, the same in each run.
func anyBogs(seed int64, many int) (list []api.Burst) {
	r := rand.New(rand.NewSource(seed))
	for range many {
		list = append(list, withSigns(r, great(r), api.BurstSigns))
	}
	return list
}

// fewTruths returns bogs with signs that leave up to 2000 choices, the same in each run.
func fewTruths(seed int64, many int) (list []api.Burst) {
	r := rand.New(rand.NewSource(seed))
	for len(list) < many {
		if b := great(r); atMost(2000, spans(doubts(&b))) {
			list = append(list, withSigns(r, b, api.BurstSigns))
		}
	}
	return list
}

// fewCourses returns bogs with signs, of which the water has up to 20000 courses, though banks can bear anything, the same in each run.
func fewCourses(seed int64, many int) (list []api.Burst) {
	r := rand.New(rand.NewSource(seed))
	for len(list) < many {
		b := great(r)
		if atMost(20000, spans(doubts(&b)[:days(b)])) {
			list = append(list, withSigns(r, b, api.BurstSigns))
		}
	}
	return list
}
