package cut_test

import (
	"math/bits"
	"math/rand"
	"testing"

	"bogworks/api"
	"bogworks/cut"
)

// noDay is the number that stands for a day that there is not; it is later than all others.
const noDay = api.CutDays + 1

// answers is all that the package returns of a cut, but for which looks clash; and how few these are. What is returned of a boat, of
// loads or of a day that there are not is as in the answers of any other cut.
type answers struct {
	depths          [api.CutDays + 1]api.Span
	leak            api.Span
	floats, until   [api.CutBoats][api.CutRoom + 1][api.CutDays + 1]int
	on, can         [api.CutBoats][api.CutRoom + 1]int
	surely, perhaps [api.CutBoats][api.CutDays + 1]int
	together        [api.CutDays + 1]int
	few             int
}

// asker asks of a cut, and notes whether there is a truth.
type asker struct {
	t  *testing.T
	c  api.Cut
	ok bool
}

func (q *asker) keep(e api.Errno) {
	if e != api.OK && e != api.ErrClash {
		q.t.Fatalf("%+v: %d", q.c, e)
	}
	q.ok = q.ok && e == api.OK
}

// until returns what Until does.
func (q *asker) until(i, loads, day int) int {
	n, e := cut.Until(q.c, i, loads, day)
	if e == api.ErrNone {
		return noDay
	}
	q.keep(e)
	return n
}

// ask returns the answers, and whether there is a truth.
func ask(t *testing.T, c api.Cut) (a answers, ok bool) {
	t.Helper()
	q := asker{t, c, true}
	var e api.Errno
	for day := range days(c) {
		a.depths[day], e = cut.Depth(c, day)
		q.keep(e)
		a.together[day], e = cut.Together(c, day)
		q.keep(e)
		for i, b := range c.Boats {
			a.surely[i][day], a.perhaps[i][day], e = cut.Loads(c, i, day)
			q.keep(e)
			for loads := range b.Room + 1 {
				a.floats[i][loads][day], e = cut.Floats(c, i, loads, day)
				q.keep(e)
				a.until[i][loads][day] = q.until(i, loads, day)
				a.on[i][loads], a.can[i][loads], e = cut.Days(c, i, loads)
				q.keep(e)
			}
		}
	}
	a.leak, e = cut.Leak(c)
	q.keep(e)
	in, e := cut.Clash(c)
	a.few = bits.OnesCount(uint(in))
	if (e == api.OK) == q.ok || (e == api.ErrNone) != q.ok || in >= 1<<len(c.Looks) {
		t.Fatalf("%+v: %d clash, %d, and there is a truth: %v", c, in, e, q.ok)
	}
	return a, q.ok
}

// P6.9, P2, P7: whatever is true, if looks are right, what is returned contains it.
func TestWhatIsTrue(t *testing.T) {
	r := rand.New(rand.NewSource(4))
	for range 500 {
		c := great(r)
		choice := chosen(r, c)
		for range r.Intn(api.CutLooks + 1) {
			c = lookMore(r, c, choice)
		}
		a, ok := ask(t, c)
		if !ok || a.few != 0 {
			t.Fatalf("%+v: no truth, though there is %v", c, choice)
		}
		x := goOn(c, choice)
		if !has(a.leak, x.leak) {
			t.Errorf("%+v: %d leaks away, not %v", c, x.leak, a.leak)
		}
		for day := range days(c) {
			if !has(a.depths[day], x.depths[day]) {
				t.Errorf("%+v: it is %d on %d, not %v", c, x.depths[day], day, a.depths[day])
			}
			checkTrueDay(t, c, x, a, day)
		}
	}
}

// checkTrueDay checks that what is returned of the boats on a day contains a truth.
func checkTrueDay(t *testing.T, c api.Cut, x truth, a answers, day int) {
	t.Helper()
	sum := 0
	for i, b := range c.Boats {
		most := -1
		for loads := range b.Room + 1 {
			afloat := floats(x.depths[day], x.draws[i], b.Per, loads)
			if afloat {
				most = loads
			}
			n, next := a.floats[i][loads][day], a.until[i][loads][day]
			if n == api.CutAlways && !afloat || n == api.CutNever && afloat || a.on[i][loads]>>day&1 == 1 && !afloat || a.can[i][loads]>>day&1 == 0 && afloat {
				t.Errorf("%+v: %d floats with %d on %d: %v, not %d", c, i, loads, day, afloat, n)
			}
			if next != noDay && !floats(x.depths[next], x.draws[i], b.Per, loads) {
				t.Errorf("%+v: %d does not float with %d on %d", c, i, loads, next)
			}
		}
		sum += max(0, most)
		if most < a.surely[i][day] || most > a.perhaps[i][day] {
			t.Errorf("%+v: %d floats with %d on %d, not %d to %d", c, i, most, day, a.surely[i][day], a.perhaps[i][day])
		}
	}
	if sum < a.together[day] {
		t.Errorf("%+v: boats float with %d on %d, not %d", c, sum, day, a.together[day])
	}
}

// What is returned of one call agrees with what is returned of others. P6.9: a boat that floats with a load more floats with fewer.
func TestCallsAgree(t *testing.T) {
	for _, c := range append(anyCuts(6, 500), greatest(), cutC(), cutX()) {
		a, ok := ask(t, c)
		if !ok {
			continue
		}
		for day := range days(c) {
			sum := 0
			for i, b := range c.Boats {
				sum += max(0, a.surely[i][day])
				for loads := range b.Room + 1 {
					n := a.floats[i][loads][day]
					if loads > 0 && n > a.floats[i][loads-1][day] {
						t.Errorf("%+v: %d floats with %d on %d: %d, with fewer %d", c, i, loads, day, n, a.floats[i][loads-1][day])
					}
					always, perhaps := n == api.CutAlways, n != api.CutNever
					if always != (loads <= a.surely[i][day]) || perhaps != (loads <= a.perhaps[i][day]) || always != (a.on[i][loads]>>day&1 == 1) || perhaps != (a.can[i][loads]>>day&1 == 1) || always != (a.until[i][loads][day] == day) {
						t.Errorf("%+v: %d with %d on %d: %+v", c, i, loads, day, a)
					}
					if next := a.until[i][loads][day]; !always && day < len(c.Rain) && next != a.until[i][loads][day+1] || !always && day == len(c.Rain) && next != noDay {
						t.Errorf("%+v: %d with %d lies from %d to %d", c, i, loads, day, next)
					}
				}
			}
			if sum != a.together[day] {
				t.Errorf("%+v: %d on %d, not %d", c, sum, day, a.together[day])
			}
		}
	}
}

// P6.9: all integers of a depth are those of a truth if what leaks is known, and no others.
func TestAllDepthsCanBe(t *testing.T) {
	asked := 0
	for _, c := range anyCuts(7, 600) {
		leak, e := cut.Leak(c)
		if e != api.OK || leak.Lo != leak.Hi || len(c.Looks) == api.CutLooks {
			continue
		}
		for day := range days(c) {
			w, _ := cut.Depth(c, day)
			for n := max(0, w.Lo-1); n <= min(w.Hi+1, api.CutDepth); n++ {
				asked++
				if _, e := cut.Clash(then(c, look(day, n, n))); (e == api.ErrNone) != has(w, n) {
					t.Errorf("%+v: %d on %d: %d, want %v", c, n, day, e, w)
				}
			}
		}
	}
	if asked < 1000 {
		t.Error(asked)
	}
}

// P6.1: both ends of each span are those of a truth, though what leaks is not known.
func TestEnds(t *testing.T) {
	for _, c := range anyCuts(8, 600) {
		leak, e := cut.Leak(c)
		if e != api.OK || len(c.Looks) == api.CutLooks {
			continue
		}
		for _, n := range []int{leak.Lo, leak.Hi} {
			d := c
			d.Leak = span(n, n)
			if _, e := cut.Clash(d); e != api.ErrNone {
				t.Errorf("%+v: %v, but %d cannot leak away", c, leak, n)
			}
		}
		for day := range days(c) {
			w, _ := cut.Depth(c, day)
			for _, n := range []int{w.Lo, w.Hi} {
				if _, e := cut.Clash(then(c, look(day, n, n))); e != api.ErrNone {
					t.Errorf("%+v: %v on %d, but it cannot be %d", c, w, day, n)
				}
			}
		}
	}
}

// within tells whether a span is within another one.
func within(in, out api.Span) bool { return out.Lo <= in.Lo && in.Hi <= out.Hi }

// less tells whether the answers of a cut say less than those before.
func less(c api.Cut, before, after answers) bool {
	if !within(after.leak, before.leak) {
		return true
	}
	for day := range days(c) {
		if !within(after.depths[day], before.depths[day]) || after.together[day] < before.together[day] {
			return true
		}
		for i, b := range c.Boats {
			if after.surely[i][day] < before.surely[i][day] || after.perhaps[i][day] > before.perhaps[i][day] {
				return true
			}
			for loads := range b.Room + 1 {
				was, is := before.floats[i][loads][day], after.floats[i][loads][day]
				if was != api.CutPerhaps && was != is || after.until[i][loads][day] > before.until[i][loads][day] {
					return true
				}
			}
		}
	}
	return false
}

// checkMore checks that of the cut d, of which more is known, no less is returned than of c, and tells whether d has a truth.
func checkMore(t *testing.T, c, d api.Cut) bool {
	t.Helper()
	before, ok := ask(t, c)
	after, truth := ask(t, d)
	if truth && (!ok || less(c, before, after)) {
		t.Errorf("%+v, %+v: %+v %v, then %+v", c, d, before, ok, after)
	}
	if !truth && !ok && after.few > before.few {
		t.Errorf("%+v, %+v: %d clash, then %d", c, d, before.few, after.few)
	}
	return truth
}

// P6.9, P2: with a look more no span is wider, and no boat floats less surely, unless there is no truth then.
func TestLookMore(t *testing.T) {
	r := rand.New(rand.NewSource(9))
	truths := 0
	for range 500 {
		c := withLooks(r, great(r), api.CutLooks-1)
		d := withLooks(r, c, 1)
		if len(d.Looks) > len(c.Looks) && checkMore(t, c, d) {
			truths++
		}
	}
	if truths < 100 {
		t.Error(truths)
	}
}

// narrower returns a span within another one.
func narrower(r *rand.Rand, w api.Span) api.Span {
	lo := w.Lo + r.Intn(w.Hi-w.Lo+1)
	return span(lo, lo+r.Intn(w.Hi-lo+1))
}

// P6.9, P2: with a narrower look no span is wider, and no boat floats less surely, unless there is no truth then; nor with anything
// else of which more is known.
func TestNarrower(t *testing.T) {
	r := rand.New(rand.NewSource(10))
	truths := 0
	for i, c := range anyCuts(11, 900) {
		d := fresh(c)
		switch {
		case len(d.Looks) > 0 && i%3 > 0:
			l := &d.Looks[r.Intn(len(d.Looks))]
			l.Depth = narrower(r, l.Depth)
		case len(d.Boats) > 0 && i%2 > 0:
			b := &d.Boats[r.Intn(len(d.Boats))]
			b.Draws = narrower(r, b.Draws)
		default:
			day := r.Intn(len(d.Rain))
			d.Rain[day], d.Leak, d.Depth = narrower(r, d.Rain[day]), narrower(r, d.Leak), narrower(r, d.Depth)
		}
		if checkMore(t, c, d) {
			truths++
		}
	}
	if truths < 300 {
		t.Error(truths)
	}
}

// P6.9: with more rain, at least and at most, and without looks, no depth is less.
func TestMoreRain(t *testing.T) {
	r := rand.New(rand.NewSource(12))
	for range 600 {
		c := great(r)
		d := fresh(c)
		day := r.Intn(len(d.Rain))
		w := &d.Rain[day]
		w.Hi += r.Intn(api.CutRain - w.Hi + 1)
		w.Lo += r.Intn(w.Hi - w.Lo + 1)
		a, _ := ask(t, c)
		b, _ := ask(t, d)
		for n := range days(c) {
			if b.depths[n].Lo < a.depths[n].Lo || b.depths[n].Hi < a.depths[n].Hi || n <= day && b.depths[n] != a.depths[n] {
				t.Errorf("%+v, %+v: %v on %d, then %v", c, d, a.depths[n], n, b.depths[n])
			}
		}
	}
}

// P6.9, P11: if looks are in another order only their numbers change.
func TestOrderOfLooks(t *testing.T) {
	r := rand.New(rand.NewSource(13))
	for _, c := range append(anyCuts(14, 400), cutN(), three()) {
		d := fresh(c)
		r.Shuffle(len(d.Looks), func(i, j int) { d.Looks[i], d.Looks[j] = d.Looks[j], d.Looks[i] })
		a, ok := ask(t, c)
		if b, good := ask(t, d); ok != good || a != b {
			t.Errorf("%+v, %+v: %+v %v, %+v %v", c, d, a, ok, b, good)
		}
	}
}

// P11: if boats are in another order only their numbers change.
func TestOrderOfBoats(t *testing.T) {
	r := rand.New(rand.NewSource(15))
	for _, c := range anyCuts(16, 300) {
		d := fresh(c)
		order := r.Perm(len(c.Boats))
		for i, at := range order {
			d.Boats[at] = c.Boats[i]
		}
		a, _ := ask(t, c)
		b, _ := ask(t, d)
		want := a
		for i, at := range order {
			want.floats[at], want.until[at], want.on[at], want.can[at], want.surely[at], want.perhaps[at] = a.floats[i], a.until[i], a.on[i], a.can[i], a.surely[i], a.perhaps[i]
		}
		if b != want {
			t.Errorf("%+v, %+v: %+v, %+v", c, d, want, b)
		}
	}
}

// P6.7, P4: without all other looks those that are returned clash, and without one of them, too, the others do not.
func TestFewestClash(t *testing.T) {
	only := func(c api.Cut, in int) api.Cut {
		d := c
		d.Looks = nil
		for i, l := range c.Looks {
			if in>>i&1 == 1 {
				d = then(d, l)
			}
		}
		return d
	}
	clashes := 0
	for _, c := range anyCuts(17, 1000) {
		in, e := cut.Clash(c)
		if e != api.OK {
			continue
		}
		clashes++
		if _, f := cut.Clash(only(c, in)); f != api.OK {
			t.Errorf("%+v: %d do not clash", c, in)
		}
		for i := range c.Looks {
			if _, f := cut.Clash(only(c, in&^(1<<i))); in>>i&1 == 1 && f != api.ErrNone {
				t.Errorf("%+v: of %d some clash", c, in)
			}
		}
	}
	if clashes < 100 {
		t.Error(clashes)
	}
}

// P11: a call leaves nothing behind that changes a later one.
func TestAgain(t *testing.T) {
	list := anyCuts(18, 100)
	var before []answers
	for _, c := range list {
		a, _ := ask(t, c)
		before = append(before, a)
	}
	for i := len(list) - 1; i >= 0; i-- {
		if a, _ := ask(t, list[i]); a != before[i] {
			t.Errorf("%+v: %+v, then %+v", list[i], before[i], a)
		}
	}
}
