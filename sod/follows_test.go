package sod_test

import (
	"math/bits"
	"math/rand"
	"reflect"
	"testing"

	"bogworks/api"
	"bogworks/sod"
)

// answers is all that the package returns of a bank that has a truth.
type answers struct {
	cut, need, cost []api.Span
	surely, perhaps []int
	done            api.Span
}

// ask returns the answers, and whether there is a truth.
func ask(t *testing.T, s api.Sod) (a answers, ok bool) {
	t.Helper()
	ok = true
	keep := func(e api.Errno) {
		if e != api.OK && e != api.ErrClash {
			t.Fatalf("%+v: %d", s, e)
		}
		ok = ok && e == api.OK
	}
	for day := range s.Days {
		w, e := sod.Cut(s, day)
		keep(e)
		n, e := sod.Need(s, day)
		keep(e)
		p, q, e := sod.Finished(s, day)
		keep(e)
		a.cut, a.need, a.surely, a.perhaps = append(a.cut, w), append(a.need, n), append(a.surely, p), append(a.perhaps, q)
	}
	for spit := range s.Spits {
		w, e := sod.Cost(s, spit)
		keep(e)
		a.cost = append(a.cost, w)
	}
	var e api.Errno
	a.done, e = sod.Done(s)
	keep(e)
	return a, ok
}

func has(w api.Span, n int) bool { return w.Lo <= n && n <= w.Hi }

// P2.9: whatever is true, if counts are right, what is returned contains it.
func TestWhatIsTrue(t *testing.T) {
	r := rand.New(rand.NewSource(4))
	for range 1500 {
		s := great(r, 0)
		x := chosen(r, s)
		for range r.Intn(api.SodLogs + 1) {
			day := r.Intn(len(s.Days))
			n := x.evenings[day].cut
			s.Logs = append(s.Logs, count(day, max(0, n-r.Intn(5)), n+r.Intn(5)))
		}
		a, ok := ask(t, s)
		if !ok {
			t.Fatalf("%+v: no truth, though there is %v", s, x)
		}
		for i, c := range x.costs {
			if !has(a.cost[i], c) {
				t.Errorf("%+v: a sod of %d takes %d", s, i, c)
			}
		}
		for day, e := range x.evenings {
			if !has(a.cut[day], e.cut) || !has(a.need[day], e.need) || a.surely[day]&^e.finished != 0 || e.finished&^a.perhaps[day] != 0 {
				t.Errorf("%+v: %d is %+v", s, day, e)
			}
			if n, err := sod.Fits(s, day, span(e.cut, e.cut)); n == api.SodNever || err != api.OK {
				t.Errorf("%+v: %d sods by %d: %d %d", s, e.cut, day, n, err)
			}
		}
		if !has(a.done, x.done) {
			t.Errorf("%+v: done by %d", s, x.done)
		}
		if n, e := sod.Clash(s); n != 0 || e != api.ErrNone {
			t.Errorf("%+v: %d %d", s, n, e)
		}
	}
}

// P2.9: by a later day no fewer sods are cut, no fewer spits are finished, and no more strokes are needed.
func TestLaterDays(t *testing.T) {
	for _, s := range append(greatBanks(5, 500), greatest()) {
		a, ok := ask(t, s)
		for day := 1; ok && day < len(s.Days); day++ {
			if a.cut[day].Lo < a.cut[day-1].Lo || a.cut[day].Hi < a.cut[day-1].Hi {
				t.Errorf("%+v: cut %v", s, a.cut)
			}
			if a.need[day].Lo > a.need[day-1].Lo || a.need[day].Hi > a.need[day-1].Hi {
				t.Errorf("%+v: need %v", s, a.need)
			}
			if a.surely[day-1]&^a.surely[day] != 0 || a.perhaps[day-1]&^a.perhaps[day] != 0 {
				t.Errorf("%+v: finished %v %v", s, a.surely, a.perhaps)
			}
		}
	}
}

// P2.9: what is returned of one call agrees with what is returned of another one.
func TestTogether(t *testing.T) {
	for _, s := range append(greatBanks(6, 500), greatest()) {
		a, ok := ask(t, s)
		all := 1<<len(s.Spits) - 1
		for day := range s.Days {
			if !ok {
				break
			}
			if (a.surely[day] == all) != (a.need[day].Hi == 0) || (a.perhaps[day] == all) != (a.need[day].Lo == 0) {
				t.Errorf("%+v: %d: finished %d %d, need %v", s, day, a.surely[day], a.perhaps[day], a.need[day])
			}
			if (a.need[day].Hi == 0) != (a.done.Hi <= day) || (a.need[day].Lo == 0) != (a.done.Lo <= day) {
				t.Errorf("%+v: %d: need %v, done %v", s, day, a.need[day], a.done)
			}
			if n, e := sod.Fits(s, day, a.cut[day]); n != api.SodAlways || e != api.OK {
				t.Errorf("%+v: %d: %v fits %d %d", s, day, a.cut[day], n, e)
			}
		}
	}
}

// wider tells whether a span of the second list is not within that of the first one.
func wider(before, after []api.Span) bool {
	for i, w := range after {
		if w.Lo < before[i].Lo || w.Hi > before[i].Hi {
			return true
		}
	}
	return false
}

// less tells whether the answers say less than those before.
func less(before, after answers) bool {
	for day := range after.surely {
		if before.surely[day]&^after.surely[day] != 0 || after.perhaps[day]&^before.perhaps[day] != 0 {
			return true
		}
	}
	return wider(before.cut, after.cut) || wider(before.need, after.need) || wider(before.cost, after.cost) ||
		wider([]api.Span{before.done}, []api.Span{after.done})
}

// checkMore checks that of the bank c, of which more is known, no less is returned than of s; it tells whether c has a truth.
func checkMore(t *testing.T, s, c api.Sod) bool {
	t.Helper()
	after, ok := ask(t, c)
	if !ok {
		return false
	}
	before, ok := ask(t, s)
	if !ok || less(before, after) {
		t.Errorf("%+v, %+v: %+v %v, then %+v", s, c, before, ok, after)
	}
	for day := range s.Days {
		w := before.cut[day]
		w.Hi -= (w.Hi - w.Lo) / 2
		m, _ := sod.Fits(s, day, w)
		n, _ := sod.Fits(c, day, w)
		if m != api.SodPerhaps && n != m {
			t.Errorf("%+v, %+v: %d: %v fits %d, then %d", s, c, day, w, m, n)
		}
	}
	return true
}

// P2.9: with a count more no span is wider.
func TestCountMore(t *testing.T) {
	r := rand.New(rand.NewSource(7))
	tried := 0
	for range 600 {
		s := great(r, api.SodLogs-1)
		day := r.Intn(len(s.Days))
		n := chosen(r, s).evenings[day].cut
		if checkMore(t, s, counted(s, count(day, max(0, n-r.Intn(3)), n+r.Intn(3)))) {
			tried++
		}
	}
	if tried < 200 {
		t.Error(tried)
	}
}

// P2.9: with a count that is narrower no span is wider.
func TestCountNarrower(t *testing.T) {
	r := rand.New(rand.NewSource(8))
	tried := 0
	for range 600 {
		s := great(r, api.SodLogs)
		if len(s.Logs) == 0 {
			continue
		}
		c := counted(s)
		w := &c.Logs[r.Intn(len(c.Logs))].Sods
		w.Lo += r.Intn(w.Hi - w.Lo + 1)
		w.Hi -= r.Intn(w.Hi - w.Lo + 1)
		if checkMore(t, s, c) {
			tried++
		}
	}
	if tried < 200 {
		t.Error(tried)
	}
}

// P2.9: the order of counts makes no difference but to their numbers.
func TestOrderOfCounts(t *testing.T) {
	r := rand.New(rand.NewSource(9))
	for _, s := range append(smallBanks(10, 400), bankZ(), three()) {
		order := r.Perm(len(s.Logs))
		c := s
		c.Logs = make([]api.SodLog, len(s.Logs))
		for i, at := range order {
			c.Logs[at] = s.Logs[i]
		}
		x, ok := ask(t, s)
		y, good := ask(t, c)
		if ok != good || !reflect.DeepEqual(x, y) {
			t.Errorf("%+v, %+v: %+v %v, %+v %v", s, c, x, ok, y, good)
		}
		few, e := sod.Clash(s)
		in, f := sod.Clash(c)
		if e != f || bits.OnesCount(uint(few)) != bits.OnesCount(uint(in)) {
			t.Errorf("%+v, %+v: %d and %d clash", s, c, few, in)
		}
		c.Logs = only(c.Logs, in)
		if _, truth := ask(t, c); e == api.OK && truth {
			t.Errorf("%+v do not clash", c)
		}
	}
}

// P11: a call leaves nothing behind that changes a later one.
func TestAgain(t *testing.T) {
	list := greatBanks(11, 100)
	var before []answers
	for _, s := range list {
		a, _ := ask(t, s)
		before = append(before, a)
	}
	for i := len(list) - 1; i >= 0; i-- {
		if a, _ := ask(t, list[i]); !reflect.DeepEqual(a, before[i]) {
			t.Errorf("%+v: %+v, then %+v", list[i], before[i], a)
		}
	}
}
