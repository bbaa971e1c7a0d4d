package burst_test

import (
	"math/bits"
	"math/rand"
	"testing"

	"bogworks/api"
	"bogworks/burst"
)

// none stands for what there is none of: no day up to which the bog surely is safe, no bank to be left, nothing that can be cut.
const none = -1

// answers is all that the package returns of a bog, but for which signs clash; and how few these are. What is returned of a bank or of a
// day that there is not is as in the answers of any other bog.
type answers struct {
	water           [api.BurstDays + 1]api.Span
	margin          [api.BurstBanks][api.BurstDays + 1]api.Span
	surely, perhaps [api.BurstDays + 1]int
	safe, first     [api.BurstDays + 1]int
	until           int
	spare           [api.BurstBanks]int
	few             int
}

// asker asks of a bog, and notes whether there is a truth.
type asker struct {
	t  *testing.T
	b  api.Burst
	ok bool
}

func (q *asker) keep(e api.Errno) {
	if e != api.OK && e != api.ErrClash {
		q.t.Fatalf("%+v: %d", q.b, e)
	}
	q.ok = q.ok && e == api.OK
}

// orNone returns what there is, or that there is none.
func (q *asker) orNone(n int, e api.Errno) int {
	if e == api.ErrNone {
		return none
	}
	q.keep(e)
	return n
}

// ask returns the answers, and whether there is a truth.
func ask(t *testing.T, b api.Burst) (a answers, ok bool) {
	t.Helper()
	q := asker{t, b, true}
	var e api.Errno
	for day := range days(b) {
		a.water[day], e = burst.Water(b, day)
		q.keep(e)
		for i := range b.Banks {
			a.margin[i][day], e = burst.Margin(b, i, day)
			q.keep(e)
		}
		a.surely[day], a.perhaps[day], e = burst.Moves(b, day)
		q.keep(e)
		a.safe[day], e = burst.Safe(b, day)
		q.keep(e)
		a.first[day] = q.orNone(burst.First(b, day))
	}
	a.until = q.orNone(burst.Until(b))
	for i := range b.Banks {
		a.spare[i] = q.orNone(burst.Spare(b, i))
	}
	in, e := burst.Clash(b)
	a.few = bits.OnesCount(uint(in))
	if (e == api.OK) == q.ok || (e == api.ErrNone) != q.ok || in > all(b) {
		t.Fatalf("%+v: %b clash, %d, and there is a truth: %v", b, in, e, q.ok)
	}
	return a, q.ok
}

// P8.10, P2, P9: whatever is true, if signs are right, what is returned contains it.
func TestWhatIsTrue(t *testing.T) {
	r := rand.New(rand.NewSource(4))
	moved := 0
	for range 1500 {
		b := great(r)
		x := goOn(b, chosen(r, b))
		for range r.Intn(api.BurstSigns + 1) {
			b = seeMore(r, b, x)
		}
		a, ok := ask(t, b)
		if !ok || a.few != 0 {
			t.Fatalf("%+v: no truth, though there is %v", b, x)
		}
		safe := true
		for day := range days(b) {
			set := 0
			for i := range b.Banks {
				if !has(a.margin[i][day], x.margin(i, day)) {
					t.Errorf("%+v, %v: margin of %d on %d: %v", b, x, i, day, a.margin[i][day])
				}
				if x.margin(i, day) < 0 {
					set |= 1 << i
					moved++
				}
				if a.spare[i] != none && x.margin(i, day) < a.spare[i] {
					t.Errorf("%+v, %v: %d moves on %d with %d cut", b, x, i, day, a.spare[i])
				}
			}
			safe = safe && set == 0
			if !has(a.water[day], x.water[day]) || a.surely[day]&^set != 0 || set&^a.perhaps[day] != 0 {
				t.Errorf("%+v, %v: on %d: %+v", b, x, day, a)
			}
			if n := a.safe[day]; n == api.BurstAlways && !safe || n == api.BurstNever && safe || a.until >= day && !safe || a.first[day] == none && !safe {
				t.Errorf("%+v, %v: up to %d it is safe: %v: %+v", b, x, day, safe, a)
			}
		}
	}
	if moved < 1000 {
		t.Error(moved)
	}
}

// sought is a number of which a truth is looked for: the water of a day, or the margin of a bank on it.
type sought struct {
	bank, day, n int
	ofBank       bool
}

// in tells whether what is returned of a bog contains the number.
func (s sought) in(b api.Burst) bool {
	w, e := burst.Water(b, s.day)
	if s.ofBank {
		w, e = burst.Margin(b, s.bank, s.day)
	}
	return e == api.OK && has(w, s.n)
}

// witness returns a truth that has the number, by halving what is not known, one doubt after another one.
func (s sought) witness(b api.Burst) truth {
	b = fresh(b)
	for _, w := range doubts(&b) {
		for w.Lo < w.Hi {
			whole := *w
			mid := w.Lo + (w.Hi-w.Lo)/2
			if *w = span(whole.Lo, mid); !s.in(b) {
				*w = span(mid+1, whole.Hi)
			}
		}
	}
	var choice []int
	for _, w := range doubts(&b) {
		choice = append(choice, w.Lo)
	}
	return goOn(b, choice)
}

// check checks that there is a truth that has the number.
func (s sought) check(t *testing.T, b api.Burst) {
	t.Helper()
	x := s.witness(b)
	n := x.water[s.day]
	if s.ofBank {
		n = x.margin(s.bank, s.day)
	}
	if n != s.n || x.rightOf(b) != all(b) {
		t.Errorf("%+v: %+v has no truth", b, s)
	}
}

// P8.10, P8.1, P8.2: all integers of a span that is returned are those of a truth: its ends are, and some between.
func TestAllCanBe(t *testing.T) {
	r := rand.New(rand.NewSource(5))
	truths := 0
	for _, b := range append(anyBogs(6, 120), bogB(), bogD(), tops(), greatest(0), greatest(20)) {
		a, ok := ask(t, b)
		if !ok {
			continue
		}
		truths++
		s := sought{bank: r.Intn(len(b.Banks)), day: r.Intn(days(b))}
		w, m := a.water[s.day], a.margin[s.bank][s.day]
		for _, n := range []int{w.Lo, w.Hi, w.Lo + r.Intn(w.Hi-w.Lo+1)} {
			s.n, s.ofBank = n, false
			s.check(t, b)
		}
		for _, n := range []int{m.Lo, m.Hi, m.Lo + r.Intn(m.Hi-m.Lo+1)} {
			s.n, s.ofBank = n, true
			s.check(t, b)
		}
	}
	if truths < 50 {
		t.Error(truths)
	}
}

// below returns the banks of which one end of the margin on a day is below 0.
func (a answers) below(b api.Burst, day int, end func(w api.Span) int) (set int) {
	for i := range b.Banks {
		if end(a.margin[i][day]) < 0 {
			set |= 1 << i
		}
	}
	return set
}

// What is returned of one call agrees with what is returned of others.
func TestCallsAgree(t *testing.T) {
	for _, b := range append(anyBogs(7, 1000), greatest(0), greatest(20), bogB(), bogD(), tops()) {
		a, ok := ask(t, b)
		if !ok {
			continue
		}
		least := [api.BurstBanks]int{}
		moved, can := 0, 0
		for day := range days(b) {
			first := none
			for i := range b.Banks {
				if day == 0 {
					least[i] = a.margin[i][0].Lo
				}
				least[i] = min(least[i], a.margin[i][day].Lo)
				if least[i] < 0 && (first == none || least[i] < least[first]) {
					first = i
				}
			}
			surely, perhaps := a.below(b, day, func(w api.Span) int { return w.Hi }), a.below(b, day, func(w api.Span) int { return w.Lo })
			moved, can = moved|surely, can|perhaps
			always := a.safe[day] == api.BurstAlways
			if a.surely[day] != surely || a.perhaps[day] != perhaps || a.first[day] != first || always != (can == 0) || always != (day <= a.until) || moved != 0 && a.safe[day] != api.BurstNever || day > 0 && a.safe[day] > a.safe[day-1] {
				t.Errorf("%+v: on %d: %+v", b, day, a)
			}
		}
		for i := range b.Banks {
			if a.spare[i] != max(none, least[i]) {
				t.Errorf("%+v: of %d %d can be cut, not %d", b, i, least[i], a.spare[i])
			}
		}
	}
}

// P8.7: if so much more is cut the bank surely never moves, and with one more it perhaps does, if there are no signs.
func TestCutMore(t *testing.T) {
	r := rand.New(rand.NewSource(8))
	asked := 0
	for range 1000 {
		b := great(r)
		i := r.Intn(len(b.Banks))
		n, e := burst.Spare(b, i)
		if e != api.OK {
			continue
		}
		for more, moves := range map[int]bool{n: false, n + 1: true} {
			c := fresh(b)
			w := &c.Banks[i].Cut
			if w.Hi+more > api.BurstCut {
				continue
			}
			asked++
			*w = span(w.Lo+more, w.Hi+more)
			perhaps := 0
			for day := range days(c) {
				_, p, _ := burst.Moves(c, day)
				perhaps |= p
			}
			if (perhaps>>i&1 == 1) != moves {
				t.Errorf("%+v: %d more of %d, and %b can move", b, more, i, perhaps)
			}
		}
	}
	if asked < 200 {
		t.Error(asked)
	}
}

// within tells whether a span is within another one.
func within(in, out api.Span) bool { return out.Lo <= in.Lo && in.Hi <= out.Hi }

// less tells whether the answers of a bog say less than those before.
func less(b api.Burst, before, after answers) bool {
	for day := range days(b) {
		if !within(after.water[day], before.water[day]) || before.surely[day]&^after.surely[day] != 0 || after.perhaps[day]&^before.perhaps[day] != 0 {
			return true
		}
		if was := before.safe[day]; was != api.BurstPerhaps && was != after.safe[day] {
			return true
		}
		for i := range b.Banks {
			if !within(after.margin[i][day], before.margin[i][day]) {
				return true
			}
		}
	}
	for i := range b.Banks {
		if after.spare[i] < before.spare[i] {
			return true
		}
	}
	return after.until < before.until
}

// checkMore checks that of the bog c, of which more is known, no less is returned than of b, and tells whether c has a truth.
func checkMore(t *testing.T, b, c api.Burst) bool {
	t.Helper()
	before, ok := ask(t, b)
	after, truth := ask(t, c)
	if truth && (!ok || less(b, before, after)) {
		t.Errorf("%+v, %+v: %+v %v, then %+v", b, c, before, ok, after)
	}
	if !truth && !ok && after.few > before.few {
		t.Errorf("%+v, %+v: %d clash, then %d", b, c, before.few, after.few)
	}
	return truth
}

// P8.10, P2: with a sign more no span is wider, and the bog is no less safe, unless it surely is not then, or there is no truth.
func TestSeeMore(t *testing.T) {
	r := rand.New(rand.NewSource(9))
	truths := 0
	for range 1500 {
		b := withSigns(r, great(r), api.BurstSigns-1)
		c := withSigns(r, b, 1)
		if len(c.Signs) > len(b.Signs) && checkMore(t, b, c) {
			truths++
		}
	}
	if truths < 200 {
		t.Error(truths)
	}
}

// P2: with anything that is known better, too.
func TestNarrower(t *testing.T) {
	r := rand.New(rand.NewSource(10))
	truths := 0
	for _, b := range anyBogs(11, 1500) {
		c := fresh(b)
		list := doubts(&c)
		w := list[r.Intn(len(list))]
		lo := w.Lo + r.Intn(w.Hi-w.Lo+1)
		*w = span(lo, lo+r.Intn(w.Hi-lo+1))
		if checkMore(t, b, c) {
			truths++
		}
	}
	if truths < 500 {
		t.Error(truths)
	}
}

// lessCut returns a bog at the foot of one bank of which less is cut, at least and at most.
func lessCut(r *rand.Rand, b api.Burst, bank int) api.Burst {
	c := fresh(b)
	w := &c.Banks[bank].Cut
	w.Lo -= r.Intn(w.Lo + 1)
	w.Hi -= r.Intn(w.Hi - w.Lo + 1)
	return c
}

// P8.10: with less cut at its foot no bank's margin is less, unless there is no truth then; nor is that of others if there are no signs.
func TestLessCut(t *testing.T) {
	r := rand.New(rand.NewSource(12))
	more := 0
	for _, b := range anyBogs(13, 1500) {
		bank := r.Intn(len(b.Banks))
		c := lessCut(r, b, bank)
		x, ok := ask(t, b)
		y, truth := ask(t, c)
		if !ok || !truth {
			continue
		}
		for i := range b.Banks {
			if i != bank && len(b.Signs) > 0 {
				continue
			}
			for day := range days(b) {
				if y.margin[i][day].Lo < x.margin[i][day].Lo || y.margin[i][day].Hi < x.margin[i][day].Hi {
					t.Errorf("%+v, %+v: margin of %d on %d: %v, then %v", b, c, i, day, x.margin[i][day], y.margin[i][day])
				}
			}
		}
		if y.margin[bank] != x.margin[bank] {
			more++
		}
	}
	if more < 300 {
		t.Error(more)
	}
}

// P8.10, P11: if signs are in another order only their numbers change.
func TestOrderOfSigns(t *testing.T) {
	r := rand.New(rand.NewSource(14))
	for _, b := range append(anyBogs(15, 1000), bogN(), three()) {
		c := fresh(b)
		r.Shuffle(len(c.Signs), func(i, j int) { c.Signs[i], c.Signs[j] = c.Signs[j], c.Signs[i] })
		x, ok := ask(t, b)
		if y, truth := ask(t, c); ok != truth || x != y {
			t.Errorf("%+v, %+v: %+v %v, %+v %v", b, c, x, ok, y, truth)
		}
	}
}

// renumbered returns a bog of which the bank i has the number at[i].
func renumbered(b api.Burst, at []int) api.Burst {
	c := fresh(b)
	for i, n := range at {
		c.Banks[n] = b.Banks[i]
	}
	for i, s := range b.Signs {
		if s.Kind != api.BurstBrown {
			c.Signs[i].Bank = at[s.Bank]
		}
	}
	return c
}

// moved returns the set of what the elements of a set are, each of which is another one.
func moved(set int, at []int) (to int) {
	for i, n := range at {
		to |= set >> i & 1 << n
	}
	return to
}

// P8.10, P11: if banks are numbered otherwise only their numbers change. Of several of which the margin is as little First returns another
// one then, of as little a margin.
func TestOrderOfBanks(t *testing.T) {
	r := rand.New(rand.NewSource(16))
	for _, b := range append(anyBogs(17, 1000), bogB(), bogD(), bogN(), tops()) {
		at := r.Perm(len(b.Banks))
		c := renumbered(b, at)
		x, ok := ask(t, b)
		y, truth := ask(t, c)
		want := x
		for i, n := range at {
			want.margin[n], want.spare[n] = x.margin[i], x.spare[i]
		}
		for day := range days(b) {
			want.surely[day], want.perhaps[day] = moved(x.surely[day], at), moved(x.perhaps[day], at)
			if n := x.first[day]; ok && n != none {
				was, is := low(x.margin[n], day), low(y.margin[y.first[day]], day)
				if was != is {
					t.Errorf("%+v, %+v: up to %d: %d, %d", b, c, day, was, is)
				}
				want.first[day] = y.first[day]
			}
		}
		clash, _ := burst.Clash(b)
		if set, _ := burst.Clash(c); ok != truth || y != want || clash != set {
			t.Errorf("%+v, %+v: %+v %v, %+v %v", b, c, want, ok, y, truth)
		}
	}
}

// low returns the least of some margins up to a day.
func low(margins [api.BurstDays + 1]api.Span, day int) int {
	least := margins[0].Lo
	for _, w := range margins[:day+1] {
		least = min(least, w.Lo)
	}
	return least
}

// P8.8, P4: without all other signs those that are returned clash, and without one of them, too, the others do not.
func TestFewestClash(t *testing.T) {
	only := func(b api.Burst, in int) api.Burst {
		c := b
		c.Signs = nil
		for i, s := range b.Signs {
			if in>>i&1 == 1 {
				c = then(c, s)
			}
		}
		return c
	}
	clashes := 0
	for _, b := range append(anyBogs(18, 3000), three()) {
		in, e := burst.Clash(b)
		if e != api.OK {
			continue
		}
		clashes++
		if _, f := burst.Clash(only(b, in)); f != api.OK {
			t.Errorf("%+v: %b do not clash", b, in)
		}
		for i := range b.Signs {
			if _, f := burst.Clash(only(b, in&^(1<<i))); in>>i&1 == 1 && f != api.ErrNone {
				t.Errorf("%+v: of %b some clash", b, in)
			}
		}
	}
	if clashes < 200 {
		t.Error(clashes)
	}
}

// P11: a call leaves nothing behind that changes a later one.
func TestAgain(t *testing.T) {
	list := anyBogs(19, 200)
	var before []answers
	for _, b := range list {
		a, _ := ask(t, b)
		before = append(before, a)
	}
	for i := len(list) - 1; i >= 0; i-- {
		if a, _ := ask(t, list[i]); a != before[i] {
			t.Errorf("%+v: %+v, then %+v", list[i], before[i], a)
		}
	}
}
