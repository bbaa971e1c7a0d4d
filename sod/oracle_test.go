package sod_test

import (
	"math/bits"
	"math/rand"
	"testing"

	"bogworks/api"
	"bogworks/sod"
)

func span(lo, hi int) api.Span { return api.Span{Lo: lo, Hi: hi} }

func spit(sods, lo, hi int) api.SodSpit { return api.SodSpit{Sods: sods, Cost: span(lo, hi)} }

func count(day, lo, hi int) api.SodLog { return api.SodLog{Day: day, Sods: span(lo, hi)} }

// counted returns the bank with counts behind its own.
func counted(s api.Sod, logs ...api.SodLog) api.Sod {
	s.Logs = append(append([]api.SodLog(nil), s.Logs...), logs...)
	return s
}

// bankS, bankX and bankZ are those of the document's examples.
func bankS() api.Sod {
	return api.Sod{Spits: []api.SodSpit{spit(4, 2, 2), spit(3, 3, 4)}, Days: []api.Span{span(6, 8), span(6, 8), span(4, 10)}}
}

func bankX() api.Sod { return counted(bankS(), count(1, 6, 6)) }

func bankZ() api.Sod { return counted(bankX(), count(2, 6, 6)) }

// greatest returns the greatest bank that is valid, without counts.
func greatest() api.Sod {
	s := api.Sod{}
	for range api.SodSpits {
		s.Spits = append(s.Spits, spit(api.SodSods, 4, 6))
	}
	for range api.SodDays {
		s.Days = append(s.Days, span(0, api.SodStrokes))
	}
	return s
}

// one returns the bank of one spit with one sod, and one day.
func one(cost, strokes api.Span) api.Sod {
	return api.Sod{Spits: []api.SodSpit{{Sods: 1, Cost: cost}}, Days: []api.Span{strokes}}
}

// evening is what is so at the end of a day.
type evening struct{ cut, finished, need int }

// truth is how many strokes a sod of each spit takes, what is so each evening, and by which day all is finished first.
type truth struct {
	costs    []int
	evenings []evening
	done     int
}

// sodLeft is a sod that is not cut: of which spit it is, and how many strokes it still takes.
type sodLeft struct{ spit, strokes int }

// uncut returns the sods before the first day, from above.
func uncut(s api.Sod, costs []int) (list []sodLeft) {
	for i, p := range s.Spits {
		for range p.Sods {
			list = append(list, sodLeft{i, costs[i]})
		}
	}
	return list
}

// look returns what is so when these sods are left.
func look(s api.Sod, left []sodLeft) (e evening) {
	e.finished = 1<<len(s.Spits) - 1
	for _, p := range s.Spits {
		e.cut += p.Sods
	}
	for _, x := range left {
		e.cut--
		e.need += x.strokes
		e.finished &^= 1 << x.spit
	}
	return e
}

// work uses the strokes of all days, one by one.
func work(s api.Sod, costs, strokes []int) truth {
	t := truth{costs: append([]int(nil), costs...), done: len(s.Days)}
	left := uncut(s, costs)
	for day, n := range strokes {
		for ; n > 0 && len(left) > 0; n-- {
			left[0].strokes--
			if left[0].strokes == 0 {
				left = left[1:]
			}
		}
		if len(left) == 0 && t.done == len(s.Days) {
			t.done = day
		}
		t.evenings = append(t.evenings, look(s, left))
	}
	return t
}

// choices calls f with each choice of one integer of each span.
func choices(spans []api.Span, f func(list []int)) {
	list := make([]int, len(spans))
	var choose func(i int)
	choose = func(i int) {
		if i == len(spans) {
			f(list)
			return
		}
		for n := spans[i].Lo; n <= spans[i].Hi; n++ {
			list[i] = n
			choose(i + 1)
		}
	}
	choose(0)
}

func costsOf(s api.Sod) (list []api.Span) {
	for _, p := range s.Spits {
		list = append(list, p.Cost)
	}
	return list
}

// every returns all truths of a bank, one by one, looking at no count.
func every(s api.Sod) (list []truth) {
	choices(costsOf(s), func(costs []int) {
		choices(s.Days, func(strokes []int) { list = append(list, work(s, costs, strokes)) })
	})
	return list
}

func (t truth) agrees(logs []api.SodLog) bool {
	for _, l := range logs {
		if n := t.evenings[l.Day].cut; n < l.Sods.Lo || n > l.Sods.Hi {
			return false
		}
	}
	return true
}

// agreeing returns the truths in which counts are right.
func agreeing(all []truth, logs []api.SodLog) (list []truth) {
	for _, t := range all {
		if t.agrees(logs) {
			list = append(list, t)
		}
	}
	return list
}

// set is the values that a number has in some truth.
type set map[int]bool

func (s set) span() (w api.Span) {
	first := true
	for n := range s {
		if first {
			w = span(n, n)
		}
		first = false
		w = span(min(w.Lo, n), max(w.Hi, n))
	}
	return w
}

// fits tells how many of the values lie within a span: none, some, or all.
func (s set) fits(w api.Span) int {
	in := 0
	for n := range s {
		if w.Lo <= n && n <= w.Hi {
			in++
		}
	}
	switch in {
	case 0:
		return api.SodNever
	case len(s):
		return api.SodAlways
	}
	return api.SodPerhaps
}

// known is what all truths leave: the costs of each spit, what is so each evening, and when all is finished.
type known struct {
	costs               []set
	cut, finished, need []set
	done                set
}

func sets(n int) (list []set) {
	for range n {
		list = append(list, set{})
	}
	return list
}

func nothing(s api.Sod) known {
	n := len(s.Days)
	return known{sets(len(s.Spits)), sets(n), sets(n), sets(n), set{}}
}

func (k known) addCosts(costs []int) {
	for i, c := range costs {
		k.costs[i][c] = true
	}
}

func (k known) addEvening(day int, e evening) {
	k.cut[day][e.cut], k.finished[day][e.finished], k.need[day][e.need] = true, true, true
}

// knowing returns what truths leave.
func knowing(s api.Sod, all []truth) known {
	k := nothing(s)
	for _, t := range all {
		k.addCosts(t.costs)
		for day, e := range t.evenings {
			k.addEvening(day, e)
		}
		k.done[t.done] = true
	}
	return k
}

// only returns the counts of a set.
func only(logs []api.SodLog, in int) (list []api.SodLog) {
	for i, l := range logs {
		if in>>i&1 == 1 {
			list = append(list, l)
		}
	}
	return list
}

// least returns the first set of n counts that suits: of few ones, and of these the least number; -1 if none does.
func least(n int, suits func(in int) bool) int {
	for size := 0; size <= n; size++ {
		for in := range 1 << n {
			if bits.OnesCount(uint(in)) == size && suits(in) {
				return in
			}
		}
	}
	return -1
}

// checkKnown compares all that the package returns of a valid bank, but for Clash, with what its truths leave.
func checkKnown(t *testing.T, s api.Sod, k known, fits []api.Span) {
	t.Helper()
	want := api.OK
	if len(k.done) == 0 {
		want = api.ErrClash
	}
	for i, x := range k.costs {
		if w, e := sod.Cost(s, i); w != x.span() || e != want {
			t.Errorf("Cost %+v, %d: %v %d, want %v %d", s, i, w, e, x.span(), want)
		}
	}
	for day := range s.Days {
		if w, e := sod.Cut(s, day); w != k.cut[day].span() || e != want {
			t.Errorf("Cut %+v, %d: %v %d, want %v %d", s, day, w, e, k.cut[day].span(), want)
		}
		if w, e := sod.Need(s, day); w != k.need[day].span() || e != want {
			t.Errorf("Need %+v, %d: %v %d, want %v %d", s, day, w, e, k.need[day].span(), want)
		}
		checkFinished(t, s, day, k.finished[day], want)
		for _, x := range fits {
			n := 0
			if want == api.OK {
				n = k.cut[day].fits(x)
			}
			if m, e := sod.Fits(s, day, x); m != n || e != want {
				t.Errorf("Fits %+v, %d, %v: %d %d, want %d %d", s, day, x, m, e, n, want)
			}
		}
	}
	if w, e := sod.Done(s); w != k.done.span() || e != want {
		t.Errorf("Done %+v: %v %d, want %v %d", s, w, e, k.done.span(), want)
	}
}

func checkFinished(t *testing.T, s api.Sod, day int, finished set, want api.Errno) {
	t.Helper()
	surely, perhaps := 0, 0
	if want == api.OK {
		surely = 1<<len(s.Spits) - 1
	}
	for n := range finished {
		surely, perhaps = surely&n, perhaps|n
	}
	if a, b, e := sod.Finished(s, day); a != surely || b != perhaps || e != want {
		t.Errorf("Finished %+v, %d: %d %d %d, want %d %d %d", s, day, a, b, e, surely, perhaps, want)
	}
}

// checkClash compares Clash with whether there is a truth with each set of counts alone.
func checkClash(t *testing.T, s api.Sod, can func(in int) bool) {
	t.Helper()
	clash, want := least(len(s.Logs), func(in int) bool { return !can(in) }), api.OK
	if clash < 0 {
		clash, want = 0, api.ErrNone
	}
	if n, e := sod.Clash(s); n != clash || e != want {
		t.Errorf("Clash %+v: %d %d, want %d %d", s, n, e, clash, want)
	}
}

// checkAll compares all that the package returns of a valid bank with what its truths, one by one, leave.
func checkAll(t *testing.T, s api.Sod, fits []api.Span) {
	t.Helper()
	all := every(s)
	checkKnown(t, s, knowing(s, agreeing(all, s.Logs)), fits)
	checkClash(t, s, func(in int) bool { return len(agreeing(all, only(s.Logs, in))) > 0 })
}

// someSpan returns a span within two numbers, at most so wide.
func someSpan(r *rand.Rand, from, to, wide int) api.Span {
	lo := from + r.Intn(to-from+1)
	return span(lo, min(to, lo+r.Intn(wide+1)))
}

// small returns a bank with few enough truths to look at each of them, without counts.
func small(r *rand.Rand) (s api.Sod) {
	for range 1 + r.Intn(api.SodSpits) {
		s.Spits = append(s.Spits, api.SodSpit{Sods: 1 + r.Intn(4), Cost: someSpan(r, 1, api.SodCost, api.SodWide)})
	}
	for range 1 + r.Intn(3) {
		s.Days = append(s.Days, someSpan(r, 0, 16, 4))
	}
	return s
}

// withCounts returns a bank with up to so many counts, which often are right in one truth.
func withCounts(r *rand.Rand, s api.Sod, many int) api.Sod {
	all := every(s)
	x := all[r.Intn(len(all))]
	for range r.Intn(many + 1) {
		day := r.Intn(len(s.Days))
		l := api.SodLog{Day: day, Sods: someSpan(r, 0, 13, 4)}
		if n := x.evenings[day].cut; r.Intn(4) > 0 {
			l.Sods = span(max(0, n-r.Intn(3)), n+r.Intn(3))
		}
		s.Logs = append(s.Logs, l)
	}
	return s
}

// smallBanks returns small banks with counts, the same ones in each run.
func smallBanks(seed int64, many int) (list []api.Sod) {
	r := rand.New(rand.NewSource(seed))
	for range many {
		list = append(list, withCounts(r, small(r), api.SodLogs))
	}
	return list
}
