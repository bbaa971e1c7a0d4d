package clamp_test

import (
	"math/bits"
	"math/rand"
	"testing"

	"bogworks/api"
	"bogworks/clamp"
)

// none stands for no clamps that are enough.
const none = -1

// asks is of how many different numbers of sods it is asked.
const asks = 8

// answers is all that the package returns of clamps, but for which counts clash; and how few these are. What is returned of a clamp that
// there is not is as in the answers of any other clamps.
type answers struct {
	first, left, sold [api.ClampPiles]api.Span
	all               api.Span
	enough            [api.ClampPiles][asks]int
	surely, perhaps   int
	share             [asks]int
	few               int
}

// asker asks of clamps, and notes whether there is a truth.
type asker struct {
	t  *testing.T
	c  api.Clamp
	ok bool
}

func (q *asker) keep(e api.Errno) {
	if e != api.OK && e != api.ErrClash {
		q.t.Fatalf("%+v: %d", q.c, e)
	}
	q.ok = q.ok && e == api.OK
}

// someSods returns of how many sods it is asked of clamps: of fewer than they can have together.
func someSods(c api.Clamp) (list [asks]int) {
	for i := range list {
		most := c.Pack.Hi
		p := c.Piles[i%len(c.Piles)]
		most *= p.Long.Hi * p.Wide.Hi * p.High.Hi
		list[i] = most * i / (asks / 2)
	}
	return list
}

// ask returns the answers, for some numbers of sods, and whether there is a truth.
func ask(t *testing.T, c api.Clamp, sods [asks]int) (a answers, ok bool) {
	t.Helper()
	q := asker{t, c, true}
	var e api.Errno
	for i := range c.Piles {
		a.first[i], e = clamp.Built(c, i)
		q.keep(e)
		a.left[i], e = clamp.Has(c, i)
		q.keep(e)
		a.sold[i], e = clamp.Sold(c, i)
		q.keep(e)
		for k, n := range sods {
			a.enough[i][k], e = clamp.Enough(c, i, n)
			q.keep(e)
		}
	}
	a.all, e = clamp.All(c)
	q.keep(e)
	a.surely, a.perhaps, e = clamp.Empty(c)
	q.keep(e)
	for k, n := range sods {
		if a.share[k], e = clamp.Share(c, n); e == api.ErrNone {
			a.share[k] = none
		} else {
			q.keep(e)
		}
	}
	set, e := clamp.Clash(c)
	a.few = bits.OnesCount(uint(set))
	if (e == api.OK) == q.ok || (e == api.ErrNone) != q.ok || set&^everyCount(c) != 0 {
		t.Fatalf("%+v: %b clash, %d, and there is a truth: %v", c, set, e, q.ok)
	}
	return a, q.ok
}

// P9.7, P2, P10: whatever is true, if counts are right, what is returned contains it.
func TestWhatIsTrue(t *testing.T) {
	r := rand.New(rand.NewSource(4))
	empty, shared := 0, 0
	for range 2000 {
		c := great(r)
		x := begin(r, c)
		for range r.Intn(api.ClampEvents + 1) {
			c = then(c, happen(r, c, &x))
		}
		sods := someSods(c)
		a, ok := ask(t, c, sods)
		if !ok || a.few != 0 {
			t.Fatalf("%+v: no truth, though there is %v", c, x)
		}
		gone := 0
		for i := range c.Piles {
			if !has(a.first[i], x.first[i]) || !has(a.left[i], x.left[i]) || !has(a.sold[i], x.sold[i]) {
				t.Errorf("%+v, %v: of %d: %+v", c, x, i, a)
			}
			if x.left[i] == 0 {
				gone |= 1 << i
				empty++
			}
			for k, n := range sods {
				if y := a.enough[i][k]; y == api.ClampAlways && x.left[i] < n || y == api.ClampNever && x.left[i] >= n {
					t.Errorf("%+v, %v: %d has %d: %d", c, x, i, n, y)
				}
			}
		}
		if !has(a.all, x.left.total(15)) || a.surely&^gone != 0 || gone&^a.perhaps != 0 {
			t.Errorf("%+v, %v: %+v", c, x, a)
		}
		for k, n := range sods {
			if set := a.share[k]; set != none && x.left.total(set) < n {
				t.Errorf("%+v, %v: %b have %d", c, x, set, n)
			} else if set > 0 {
				shared++
			}
		}
	}
	if empty < 500 || shared < 1000 {
		t.Error(empty, shared)
	}
}

// sought is a number of which a truth is looked for, of those that a call returns as a span.
type sought struct {
	call  string
	of, n int
}

// span returns what the call returns.
func (s sought) span(c api.Clamp) (w api.Span, e api.Errno) {
	switch s.call {
	case "Built":
		return clamp.Built(c, s.of)
	case "Has":
		return clamp.Has(c, s.of)
	case "Sold":
		return clamp.Sold(c, s.of)
	}
	return clamp.All(c)
}

// in returns what the number is in a truth.
func (s sought) in(x truth) int {
	switch s.call {
	case "Built":
		return x.first[s.of]
	case "Has":
		return x.left[s.of]
	case "Sold":
		return x.sold[s.of]
	}
	return x.left.total(15)
}

// witness returns a choice of one integer for each doubt by which the number can be so, by halving what is not known, one doubt after
// another one.
func (s sought) witness(c api.Clamp) (choice []int) {
	c = fresh(c)
	list := doubts(&c)
	for _, w := range list {
		for w.Lo < w.Hi {
			whole := *w
			mid := w.Lo + (w.Hi-w.Lo)/2
			*w = span(whole.Lo, mid)
			if can, e := s.span(c); e != api.OK || !has(can, s.n) {
				*w = span(mid+1, whole.Hi)
			}
		}
	}
	for _, w := range list {
		choice = append(choice, w.Lo)
	}
	return choice
}

// P9.7, P9.1, P9.2: both ends of each span are those of a truth.
func TestEndsCanBe(t *testing.T) {
	truths := 0
	for _, c := range append(anyClamps(5, 400), clampsC(), clampsK(), greatest(), apart()) {
		for _, call := range []string{"Built", "Has", "Sold", "All"} {
			s := sought{call: call, of: len(c.Piles) - 1}
			w, e := s.span(c)
			if e != api.OK {
				continue
			}
			truths++
			for _, s.n = range []int{w.Lo, w.Hi} {
				x, right, ok := goOn(c, s.witness(c))
				if !ok || right != everyCount(c) || s.in(x) != s.n {
					t.Errorf("%+v: %+v has no truth", c, s)
				}
			}
		}
	}
	if truths < 500 {
		t.Error(truths)
	}
}

// P9.7, P10: what was sold and what there is come to what there was; so it is in each truth, of which all is known.
func TestNothingIsLost(t *testing.T) {
	r := rand.New(rand.NewSource(6))
	truths := 0
	for _, c := range anyClamps(7, 3000) {
		list := chosen(r, c)
		x, right, ok := goOn(c, list)
		if !ok || right != everyCount(c) {
			continue
		}
		truths++
		exact := fresh(c)
		for i, w := range doubts(&exact) {
			*w = span(list[i], list[i])
		}
		a, truth := ask(t, exact, [asks]int{})
		for i := range c.Piles {
			if !truth || a.first[i] != span(x.first[i], x.first[i]) || a.left[i] != span(x.left[i], x.left[i]) || a.sold[i] != span(x.sold[i], x.sold[i]) || a.sold[i].Lo+a.left[i].Lo != a.first[i].Lo {
				t.Errorf("%+v: of %d: %+v, %v", exact, i, a, x)
			}
		}
	}
	if truths < 500 {
		t.Error(truths)
	}
}

// What is returned of one call agrees with what is returned of others.
func TestCallsAgree(t *testing.T) {
	for _, c := range append(anyClamps(8, 1000), clampsC(), clampsK(), greatest(), apart()) {
		sods := someSods(c)
		a, ok := ask(t, c, sods)
		if !ok {
			continue
		}
		low, high := 0, 0
		for i := range c.Piles {
			f, l, s := a.first[i], a.left[i], a.sold[i]
			low, high = low+l.Lo, high+l.Hi
			if l.Lo < f.Lo-s.Hi || l.Hi > f.Hi-s.Lo || s.Lo < f.Lo-l.Hi || s.Hi > f.Hi-l.Lo || l.Lo < 0 || s.Lo < 0 {
				t.Errorf("%+v: of %d: %+v", c, i, a)
			}
			if (a.surely>>i&1 == 1) != (l.Hi == 0) || (a.perhaps>>i&1 == 1) != (l.Lo == 0) {
				t.Errorf("%+v: of %d: %+v", c, i, a)
			}
			for k, n := range sods {
				if y := a.enough[i][k]; (y == api.ClampAlways) != (l.Lo >= n) || (y == api.ClampNever) != (l.Hi < n) {
					t.Errorf("%+v: %d has %d: %+v", c, i, n, a)
				}
			}
		}
		if a.all.Lo < low || a.all.Hi > high {
			t.Errorf("%+v: %+v", c, a)
		}
		for k, n := range sods {
			if (a.share[k] == none) != (a.all.Lo < n) || (a.share[k] == 0) != (n == 0) {
				t.Errorf("%+v: %d: %+v", c, n, a)
			}
		}
	}
}

// within tells whether a span is within another one.
func within(in, out api.Span) bool { return out.Lo <= in.Lo && in.Hi <= out.Hi }

// less tells whether the answers say less than those before.
func less(c api.Clamp, before, after answers) bool {
	for i := range c.Piles {
		if !within(after.first[i], before.first[i]) || !within(after.left[i], before.left[i]) || !within(after.sold[i], before.sold[i]) {
			return true
		}
		for k, was := range before.enough[i] {
			if was != api.ClampPerhaps && was != after.enough[i][k] {
				return true
			}
		}
	}
	for k, was := range before.share {
		is := after.share[k]
		if was != none && (is == none || bits.OnesCount(uint(is)) > bits.OnesCount(uint(was))) {
			return true
		}
	}
	return !within(after.all, before.all) || before.surely&^after.surely != 0 || after.perhaps&^before.perhaps != 0
}

// checkMore checks that of d, of which more is known, no less is returned than of c, and tells whether d has a truth.
func checkMore(t *testing.T, c, d api.Clamp) bool {
	t.Helper()
	sods := someSods(c)
	before, ok := ask(t, c, sods)
	after, truth := ask(t, d, sods)
	if truth && (!ok || less(c, before, after)) {
		t.Errorf("%+v, %+v: %+v %v, then %+v", c, d, before, ok, after)
	}
	if !truth && !ok && after.few > before.few {
		t.Errorf("%+v, %+v: %d clash, then %d", c, d, before.few, after.few)
	}
	return truth
}

// insert returns clamps with an event more, in front of one of theirs.
func insert(c api.Clamp, at int, e api.ClampEvent) api.Clamp {
	d := c
	d.Events = nil
	d = then(d, c.Events[:at]...)
	d = then(d, e)
	return then(d, c.Events[at:]...)
}

// P9.8, P2: with a count more, wherever it is, nothing is returned less exactly, unless there is no truth then.
func TestCountMore(t *testing.T) {
	r := rand.New(rand.NewSource(9))
	truths := 0
	for range 1500 {
		c := great(r)
		x := begin(r, c)
		var seen []truth
		for range r.Intn(api.ClampEvents) {
			seen = append(seen, x)
			c = then(c, happen(r, c, &x))
		}
		seen = append(seen, x)
		at, of := r.Intn(len(seen)), r.Intn(len(c.Piles))
		e := look(r, seen[at], of)
		if r.Intn(4) == 0 {
			e.Sods = around(r, r.Intn(x.first[of]+1), 50, 50)
		}
		if checkMore(t, c, insert(c, at, e)) {
			truths++
		}
	}
	if truths < 1000 {
		t.Error(truths)
	}
}

// P9.8, P2: so it is with a sale that is known better; and with a size, with the pack, or with a count.
func TestKnownBetter(t *testing.T) {
	r := rand.New(rand.NewSource(10))
	truths, sales := 0, 0
	for _, c := range anyClamps(11, 3000) {
		d := fresh(c)
		list := doubts(&d)
		if many := len(list) - 1 - 3*len(d.Piles); many > 0 && r.Intn(2) == 0 {
			list = list[len(list)-many:]
			sales++
		}
		for i, e := range d.Events {
			if e.Kind == api.ClampCount {
				list = append(list, &d.Events[i].Sods)
			}
		}
		w := list[r.Intn(len(list))]
		lo := w.Lo + r.Intn(w.Hi-w.Lo+1)
		*w = span(lo, lo+r.Intn(w.Hi-lo+1))
		if checkMore(t, c, d) {
			truths++
		}
	}
	if truths < 1000 || sales < 1000 {
		t.Error(truths, sales)
	}
}

// P9.8: two sales of a clamp, one behind the other, of exactly known numbers are the same as one of both; of those that are not exactly
// known, too, if nothing is counted between them.
func TestTwoSales(t *testing.T) {
	r := rand.New(rand.NewSource(12))
	split, truths := 0, 0
	for range 3000 {
		c := withEvents(r, great(r), api.ClampEvents-1)
		at := r.Intn(len(c.Events) + 1)
		if at == len(c.Events) || c.Events[at].Kind != api.ClampSale {
			continue
		}
		split++
		one := fresh(c)
		both := &one.Events[at]
		if r.Intn(3) > 0 {
			both.Sods.Hi = both.Sods.Lo
		}
		n := r.Intn(both.Sods.Lo + 1)
		rest := sale(both.Clamp, both.Sods.Lo-n, both.Sods.Hi-n)
		two := insert(one, at, sale(both.Clamp, n, n))
		two.Events[at+1] = rest
		sods := someSods(c)
		x, ok := ask(t, one, sods)
		y, truth := ask(t, two, sods)
		if ok != truth || x != y {
			t.Errorf("%+v, %+v: %+v %v, %+v %v", one, two, x, ok, y, truth)
		}
		a, _ := clamp.Clash(one)
		b, _ := clamp.Clash(two)
		if late := a >> (at + 1) << (at + 2); b != late|a&(1<<at-1) {
			t.Errorf("%+v, %+v: %b, %b", one, two, a, b)
		}
		if ok {
			truths++
		}
	}
	if split < 500 || truths < 300 {
		t.Error(split, truths)
	}
}

// moved returns the set of what the elements of a set are, each of which is another one.
func moved(set int, at []int) (to int) {
	for i, n := range at {
		to |= set >> i & 1 << n
	}
	return to
}

// renumbered returns clamps of which the clamp i has the number at[i].
func renumbered(c api.Clamp, at []int) api.Clamp {
	d := fresh(c)
	for i, n := range at {
		d.Piles[n] = c.Piles[i]
	}
	for i, e := range c.Events {
		d.Events[i].Clamp = at[e.Clamp]
	}
	return d
}

// P9.8, P11: if clamps are numbered otherwise only their numbers change. Of several sets that are as few Share returns another one then.
func TestOrderOfClamps(t *testing.T) {
	r := rand.New(rand.NewSource(13))
	for _, c := range append(anyClamps(14, 1000), clampsC(), clampsK(), clampsN(), apart(), three()) {
		at := r.Perm(len(c.Piles))
		d := renumbered(c, at)
		sods := someSods(c)
		x, ok := ask(t, c, sods)
		y, truth := ask(t, d, sods)
		want := x
		for i, n := range at {
			want.first[n], want.left[n], want.sold[n], want.enough[n] = x.first[i], x.left[i], x.sold[i], x.enough[i]
		}
		want.surely, want.perhaps = moved(x.surely, at), moved(x.perhaps, at)
		for k, set := range x.share {
			if set == none {
				continue
			}
			if is := y.share[k]; is == none || is > moved(set, at) || bits.OnesCount(uint(is)) != bits.OnesCount(uint(set)) {
				t.Errorf("%+v, %+v: of %d: %b, %b", c, d, sods[k], set, is)
			}
			want.share[k] = y.share[k]
		}
		clash, _ := clamp.Clash(c)
		if set, _ := clamp.Clash(d); ok != truth || y != want || clash != set {
			t.Errorf("%+v, %+v: %+v %v, %+v %v", c, d, want, ok, y, truth)
		}
	}
}

// P11: if events of different clamps are in another order only their numbers change; so it is of counts, or of sales, of one clamp with
// nothing else of it between them.
func TestOrderOfEvents(t *testing.T) {
	r := rand.New(rand.NewSource(15))
	swapped := 0
	for _, c := range anyClamps(16, 2000) {
		if len(c.Events) < 2 {
			continue
		}
		at := r.Intn(len(c.Events) - 1)
		d := fresh(c)
		one, two := &d.Events[at], &d.Events[at+1]
		if one.Clamp == two.Clamp && one.Kind != two.Kind {
			continue
		}
		swapped++
		*one, *two = *two, *one
		sods := someSods(c)
		x, ok := ask(t, c, sods)
		if y, truth := ask(t, d, sods); ok != truth || x != y {
			t.Errorf("%+v, %+v: %+v %v, %+v %v", c, d, x, ok, y, truth)
		}
	}
	if swapped < 500 {
		t.Error(swapped)
	}
}

// P9.6, P4: without all other counts those that are returned clash, and without one of them, too, the others do not.
func TestFewestClash(t *testing.T) {
	without := func(c api.Clamp, out int) api.Clamp {
		d := c
		d.Events = nil
		for i, e := range c.Events {
			if out>>i&1 == 0 {
				d = then(d, e)
			}
		}
		return d
	}
	clashes := 0
	for _, c := range append(anyClamps(17, 3000), three(), hopeless()) {
		set, e := clamp.Clash(c)
		if e != api.OK {
			continue
		}
		clashes++
		others := everyCount(c) &^ set
		if _, f := clamp.Clash(without(c, others)); f != api.OK {
			t.Errorf("%+v: %b do not clash", c, set)
		}
		for i := range c.Events {
			if _, f := clamp.Clash(without(c, others|1<<i)); set>>i&1 == 1 && f != api.ErrNone {
				t.Errorf("%+v: of %b some clash", c, set)
			}
		}
	}
	if clashes < 500 {
		t.Error(clashes)
	}
}

// P11: a call leaves nothing behind that changes a later one.
func TestAgain(t *testing.T) {
	list := anyClamps(18, 300)
	var before []answers
	for _, c := range list {
		a, _ := ask(t, c, someSods(c))
		before = append(before, a)
	}
	for i := len(list) - 1; i >= 0; i-- {
		if a, _ := ask(t, list[i], someSods(list[i])); a != before[i] {
			t.Errorf("%+v: %+v, then %+v", list[i], before[i], a)
		}
	}
}
