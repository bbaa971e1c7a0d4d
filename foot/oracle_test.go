package foot_test

import (
	"math/rand"
	"reflect"
	"slices"
	"testing"

	"bogworks/api"
	"bogworks/foot"
)

func has(w api.Span, n int) bool { return w.Lo <= n && n <= w.Hi }

// ordered tells whether a plan is in order, of so many days.
func ordered(p api.FootPlan, days int) bool {
	last, ended := -1, false
	for _, day := range p {
		switch {
		case day == -1:
			ended = true
		case ended || day <= last || day >= days:
			return false
		default:
			last = day
		}
	}
	return true
}

// plans returns all plans in order of so many days, as they are ordered.
func plans(days int) (list []api.FootPlan) {
	for a := -1; a < days; a++ {
		for b := -1; b < days; b++ {
			for c := -1; c < days; c++ {
				if p := by(a, b, c); ordered(p, days) {
					list = append(list, p)
				}
			}
		}
	}
	return list
}

// cutOff returns a plan without the steps after one.
func cutOff(p api.FootPlan, step int) api.FootPlan {
	for i := step + 1; i < 3; i++ {
		p[i] = -1
	}
	return p
}

// overnight returns how wet a heap is a day later by a plan in order.
func overnight(f api.Foot, p api.FootPlan, day, wet, rain int) int {
	steps := 0
	for _, d := range p {
		if d != -1 && d <= day {
			steps++
		}
	}
	if steps == 3 {
		return wet
	}
	wet += rain
	for range f.Dries[steps] {
		if wet > 0 {
			wet--
		}
	}
	return wet
}

// wets returns how wet a heap is at the beginning of each day in a truth.
func wets(f api.Foot, p api.FootPlan, first int, rain []int) []int {
	list := []int{first}
	for day, fell := range rain {
		list = append(list, overnight(f, p, day, list[day], fell))
	}
	return list
}

// keeps tells whether each step of a plan can be done if a heap is so wet.
func keeps(f api.Foot, p api.FootPlan, wets []int) bool {
	for step, day := range p {
		if day != -1 && wets[day] > f.Limits[step] {
			return false
		}
	}
	return true
}

// choices calls do with each choice of one integer of each span.
func choices(spans []api.Span, do func(list []int)) {
	list := make([]int, len(spans))
	var choose func(i int)
	choose = func(i int) {
		if i == len(spans) {
			do(list)
			return
		}
		for n := spans[i].Lo; n <= spans[i].Hi; n++ {
			list[i] = n
			choose(i + 1)
		}
	}
	choose(0)
}

// doubts returns all that is not known exactly of a heap.
func doubts(f api.Foot, heap int) []api.Span {
	return append([]api.Span{f.Heaps[heap].Wet}, f.Rain...)
}

// checkTruths compares what is returned of each plan of each heap with its truths, one by one.
func checkTruths(t *testing.T, f api.Foot) {
	t.Helper()
	for i := range f.Heaps {
		for _, p := range plans(len(f.Rain)) {
			var least, most []int
			truths, kept := 0, 0
			choices(doubts(f, i), func(list []int) {
				w := wets(f, p, list[0], list[1:])
				if truths == 0 {
					least, most = slices.Clone(w), slices.Clone(w)
				}
				for day, n := range w {
					least[day], most[day] = min(least[day], n), max(most[day], n)
				}
				truths++
				if keeps(f, p, w) {
					kept++
				}
			})
			checkPlan(t, f, i, p, least, most, whether(kept > 0, kept == truths))
		}
	}
}

// whether returns how sure it is what is so in some truth, or in each.
func whether(some, each bool) int {
	switch {
	case each:
		return api.FootAlways
	case some:
		return api.FootPerhaps
	}
	return api.FootNever
}

func checkPlan(t *testing.T, f api.Foot, heap int, p api.FootPlan, least, most []int, can int) {
	t.Helper()
	for day := range least {
		if w, e := foot.Wet(f, heap, p, day); w != span(least[day], most[day]) || e != api.OK {
			t.Errorf("Wet %+v, %d, %v, %d: %v %d, want %d to %d", f, heap, p, day, w, e, least[day], most[day])
		}
	}
	if n, e := foot.Can(f, heap, p); n != can || e != api.OK {
		t.Errorf("Can %+v, %d, %v: %d %d, want %d", f, heap, p, n, e, can)
	}
}

// wide is above each wetness that a heap can have.
const wide = api.FootMost + api.FootDays*api.FootRain + 1

// reach is how wet a heap can be at the beginning of each day.
type reach [api.FootDays + 1][wide]bool

// reached returns how wet a heap can be by a plan, in all truths, or in those only in which the plan can be kept.
func reached(f api.Foot, heap int, p api.FootPlan, kept bool) (r reach) {
	for n := f.Heaps[heap].Wet.Lo; n <= f.Heaps[heap].Wet.Hi; n++ {
		r[0][n] = true
	}
	for day, rain := range f.Rain {
		for n, is := range r[day] {
			if step := slices.Index(p[:], day); !is || kept && step >= 0 && n > f.Limits[step] {
				continue
			}
			for fell := rain.Lo; fell <= rain.Hi; fell++ {
				r[day+1][overnight(f, p, day, n, fell)] = true
			}
		}
	}
	return r
}

// ends returns the least and the greatest wetness of each day.
func (r reach) ends(days int) (least, most []int) {
	for day := 0; day <= days; day++ {
		least = append(least, slices.Index(r[day][:], true))
		last := wide - 1
		for !r[day][last] {
			last--
		}
		most = append(most, last)
	}
	return least, most
}

// can returns whether a plan in order can be kept.
func can(f api.Foot, heap int, p api.FootPlan) int {
	all, kept := reached(f, heap, p, false), reached(f, heap, p, true)
	surely := true
	for step, day := range p {
		for n := f.Limits[step] + 1; day >= 0 && n < wide; n++ {
			surely = surely && !all[day][n]
		}
	}
	return whether(slices.Contains(kept[len(f.Rain)][:], true), surely)
}

// whole tells whether all steps of a plan in order are done.
func whole(p api.FootPlan) bool { return p[2] != -1 }

// soonest returns the whole plan that surely can be kept and ends first, of several the first.
func soonest(f api.Foot, heap int) (best api.FootPlan, e api.Errno) {
	e = api.ErrNone
	for _, p := range plans(len(f.Rain)) {
		if whole(p) && can(f, heap, p) == api.FootAlways && (e == api.ErrNone || p[2] < best[2]) {
			best, e = p, api.OK
		}
	}
	return best, e
}

// clamped returns the set of the heaps of which a whole plan is at least so sure.
func clamped(f api.Foot, sure int) (set int) {
	for i := range f.Heaps {
		for _, p := range plans(len(f.Rain)) {
			if whole(p) && can(f, i, p) >= sure {
				set |= 1 << i
			}
		}
	}
	return set
}

// broken returns the first rule that a step breaks, 0 if it breaks none.
func broken(f api.Foot, plans []api.FootPlan, heap, step int) int {
	day, far := plans[heap][step], cutOff(plans[heap], step)
	if day == -1 {
		return 0
	}
	if !ordered(far, len(f.Rain)) {
		return api.FootOrder
	}
	_, most := reached(f, heap, far, false).ends(len(f.Rain))
	if most[day] > f.Limits[step] {
		return api.FootWet
	}
	steps := 0
	for _, p := range plans[:heap] {
		for _, d := range p {
			if d == day {
				steps++
			}
		}
	}
	if steps >= f.Men {
		return api.FootMen
	}
	return 0
}

// firstBroken returns the first step that breaks a rule, and the rule.
func firstBroken(f api.Foot, plans []api.FootPlan) (heap, step, rule int, e api.Errno) {
	for heap := range plans {
		for step := range 3 {
			if rule := broken(f, plans, heap, step); rule != 0 {
				return heap, step, rule, api.OK
			}
		}
	}
	return 0, 0, 0, api.ErrNone
}

// dryEnough returns, for each heap, the plans in order of which each step surely can be done, as far as the plan goes up to it.
func dryEnough(f api.Foot) (list [][]api.FootPlan) {
	f.Men = api.FootHeaps
	for i := range f.Heaps {
		var keep []api.FootPlan
		for _, p := range plans(len(f.Rain)) {
			alone := slices.Repeat([]api.FootPlan{none()}, len(f.Heaps))
			alone[i] = p
			if _, _, _, e := firstBroken(f, alone); e == api.ErrNone {
				keep = append(keep, p)
			}
		}
		list = append(list, keep)
	}
	return list
}

// bestOf goes through all right plans, whole or not, and returns the first of those that clamp the most sods.
func bestOf(f api.Foot) (sods int, best []api.FootPlan) {
	suit := dryEnough(f)
	sods = -1
	busy := make([]int, len(f.Rain))
	list := make([]api.FootPlan, len(f.Heaps))
	var choose func(heap, clamp int)
	choose = func(heap, clamp int) {
		if heap == len(f.Heaps) {
			if clamp > sods {
				sods, best = clamp, slices.Clone(list)
			}
			return
		}
		for _, p := range suit[heap] {
			if slices.ContainsFunc(p[:], func(day int) bool { return day != -1 && busy[day] >= f.Men }) {
				continue
			}
			list[heap] = p
			add(busy, p, 1)
			if whole(p) {
				choose(heap+1, clamp+f.Heaps[heap].Sods)
			} else {
				choose(heap+1, clamp)
			}
			add(busy, p, -1)
		}
	}
	choose(0, 0)
	return sods, best
}

// add adds so much to the days of a plan.
func add(busy []int, p api.FootPlan, n int) {
	for _, day := range p {
		if day != -1 {
			busy[day] += n
		}
	}
}

// checkAll compares all that is returned of work with what the wetnesses leave that its heaps can have.
func checkAll(t *testing.T, f api.Foot) {
	t.Helper()
	for i := range f.Heaps {
		for _, p := range plans(len(f.Rain)) {
			least, most := reached(f, i, p, false).ends(len(f.Rain))
			checkPlan(t, f, i, p, least, most, can(f, i, p))
		}
		p, want := soonest(f, i)
		if q, e := foot.Soonest(f, i); q != p || e != want {
			t.Errorf("Soonest %+v, %d: %v %d, want %v %d", f, i, q, e, p, want)
		}
	}
	surely, perhaps := clamped(f, api.FootAlways), clamped(f, api.FootPerhaps)
	if m, n, e := foot.Clamped(f); m != surely || n != perhaps || e != api.OK {
		t.Errorf("Clamped %+v: %d %d %d, want %d %d", f, m, n, e, surely, perhaps)
	}
	checkBest(t, f)
	checkBroken(t, f)
}

func checkBest(t *testing.T, f api.Foot) {
	t.Helper()
	sods, best := bestOf(f)
	n, list, e := foot.Best(f)
	if n != sods || len(list) != len(best) || len(list) > 0 && !reflect.DeepEqual(list, best) || e != api.OK {
		t.Errorf("Best %+v: %d %v %d, want %d %v", f, n, list, e, sods, best)
	}
	men := 0
	all, _ := bestOf(manned(f, api.FootHeaps))
	for few, _ := bestOf(manned(f, men)); few < all; few, _ = bestOf(manned(f, men)) {
		men++
	}
	if m, n, e := foot.Men(f); m != men || n != all || e != api.OK {
		t.Errorf("Men %+v: %d %d %d, want %d %d", f, m, n, e, men, all)
	}
}

// checkBroken compares the first broken rule of the best plans, and of others, in order or not, the same ones in each run.
func checkBroken(t *testing.T, f api.Foot) {
	t.Helper()
	_, best := bestOf(f)
	if h, s, r, e := foot.Broken(f, best); h != 0 || s != 0 || r != 0 || e != api.ErrNone {
		t.Errorf("Broken %+v, %v: %d %d %d %d", f, best, h, s, r, e)
	}
	r := rand.New(rand.NewSource(9))
	suit := dryEnough(f)
	for range 60 {
		list := make([]api.FootPlan, len(f.Heaps))
		for i := range list {
			list[i] = suit[i][r.Intn(len(suit[i]))]
			if r.Intn(4) == 0 {
				list[i][r.Intn(3)] = r.Intn(len(f.Rain)+1) - 1
			}
		}
		heap, step, rule, want := firstBroken(f, list)
		if h, s, b, e := foot.Broken(f, list); h != heap || s != step || b != rule || e != want {
			t.Errorf("Broken %+v, %v: %d %d %d %d, want %d %d %d %d", f, list, h, s, b, e, heap, step, rule, want)
		}
	}
}

// someSpan returns a span within two numbers, at most so wide.
func someSpan(r *rand.Rand, from, to, wide int) api.Span {
	lo := from + r.Intn(to-from+1)
	return span(lo, min(to, lo+r.Intn(wide+1)))
}

// someWork returns work of so many days at most, in which nothing is known worse than so. Most of it is such that some heaps,
// by some plans, can be clamped, and others cannot.
func someWork(r *rand.Rand, days, wide int) (f api.Foot) {
	most := []int{1, 3, 6, api.FootRain}[r.Intn(4)]
	for range max(1, days-r.Intn(days)*r.Intn(2)) {
		f.Rain = append(f.Rain, someSpan(r, 0, most, r.Intn(wide+1)))
	}
	f.Men = []int{0, 1, 1, 1, 2, 2, 3}[r.Intn(7)]
	for i := range 3 {
		f.Dries[i] = min(api.FootDry, r.Intn(4)+r.Intn(most+1)*(1+i)/2)
		f.Limits[i] = min(api.FootMost, 4+r.Intn(20)+r.Intn(most+1))
	}
	if r.Intn(3) > 0 {
		slices.Sort(f.Dries[:])
	}
	if r.Intn(3) > 0 {
		slices.Sort(f.Limits[:])
		slices.Reverse(f.Limits[:])
	}
	for range []int{0, 1, 2, 2, 3, 3, 3}[r.Intn(7)] {
		wet := someSpan(r, 0, min(api.FootMost, f.Limits[0]+5), wide)
		f.Heaps = append(f.Heaps, api.FootHeap{Wet: wet, Sods: []int{0, 1, 2, 3, 250, api.FootSods}[r.Intn(6)]})
	}
	return f
}

// small tells whether each heap of work has few truths.
func small(f api.Foot) bool {
	for i := range f.Heaps {
		n := 1
		for _, w := range doubts(f, i) {
			n *= w.Hi - w.Lo + 1
		}
		if n > 300 {
			return false
		}
	}
	return true
}

// greatWorks returns works of any size, smallWorks such of few truths; the same ones in each run.
func greatWorks(seed int64, many int) (list []api.Foot) {
	r := rand.New(rand.NewSource(seed))
	for range many {
		list = append(list, someWork(r, api.FootDays, 10))
	}
	return list
}

func smallWorks(seed int64, many int) (list []api.Foot) {
	r := rand.New(rand.NewSource(seed))
	for len(list) < many {
		if f := someWork(r, 6, 2); small(f) {
			list = append(list, f)
		}
	}
	return list
}
