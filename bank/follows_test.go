package bank_test

import (
	"math/bits"
	"math/rand"
	"slices"
	"testing"

	"bogworks/api"
	"bogworks/bank"
)

// answers is all that the package returns of a bank that has a truth.
type answers struct {
	whose, line, surely, perhaps []int
	wide                         []api.Span
	count, perch, left           int
}

// ask returns the answers, and whether there is a truth.
func ask(t *testing.T, b api.Bank) (a answers, ok bool) {
	t.Helper()
	ok = true
	keep := func(e api.Errno) {
		if e != api.OK && e != api.ErrClash {
			t.Fatalf("%+v: %d", b, e)
		}
		ok = ok && e == api.OK
	}
	for p := range b.Perches {
		n, e := bank.Whose(b, p)
		keep(e)
		a.whose = append(a.whose, n)
	}
	for p := 1; p < b.Perches; p++ {
		n, e := bank.Line(b, p)
		keep(e)
		a.line = append(a.line, n)
	}
	for h := 0; h <= b.Holders; h++ {
		s, q, e := bank.Has(b, h)
		keep(e)
		w, e := bank.Wide(b, h)
		keep(e)
		a.surely, a.perhaps, a.wide = append(a.surely, s), append(a.perhaps, q), append(a.wide, w)
	}
	var e api.Errno
	a.count, e = bank.Count(b)
	keep(e)
	a.perch, a.left, e = bank.Ask(b)
	keep(e)
	return a, ok
}

// P1.9: wherever lines truly lie, if marks are right, what is returned contains what is true.
func TestWhatIsTrue(t *testing.T) {
	r := rand.New(rand.NewSource(3))
	for range 150 {
		b := anyBank(r, 3, 0)
		all := every(b)
		x := all[r.Intn(len(all))]
		for range r.Intn(api.BankMarks + 1) {
			p := r.Intn(b.Perches)
			b.Marks = append(b.Marks, mark(p, x[p]))
		}
		a, ok := ask(t, b)
		if !ok {
			t.Fatalf("%+v: no truth, though there is %v", b, x)
		}
		for p, h := range x {
			if a.whose[p]>>h&1 == 0 || a.perhaps[h]>>p&1 == 0 {
				t.Errorf("%+v: perch %d is %d's", b, p, h)
			}
		}
		for h := 0; h <= b.Holders; h++ {
			checkOwn(t, b, x, h, a.surely[h], a.wide[h])
		}
		for p := 1; p < b.Perches; p++ {
			if n := a.line[p-1]; x[p] == x[p-1] && n == api.BankAlways || x[p] != x[p-1] && n == api.BankNever {
				t.Errorf("%+v: line %d", b, p)
			}
		}
		if many, set, e := bank.False(b); many != 0 || set != 0 || e != api.OK {
			t.Errorf("%+v: False %d %d %d", b, many, set, e)
		}
	}
}

// checkOwn checks what is known of a holder against a truth.
func checkOwn(t *testing.T, b api.Bank, x truth, holder, surely int, wide api.Span) {
	t.Helper()
	for p, h := range x {
		if surely>>p&1 == 1 && h != holder {
			t.Errorf("%+v: perch %d is %d's, not %d's", b, p, h, holder)
		}
	}
	if n := x.wide(holder); n < wide.Lo || n > wide.Hi {
		t.Errorf("%+v: %d has %d, not %v", b, holder, n, wide)
	}
}

// P1.9: whoever is found to have the perch that Ask returns, no more truths are left than it returns.
func TestAskLeaves(t *testing.T) {
	for _, b := range someBanks(4, 150, 3, 4) {
		perch, left, e := bank.Ask(b)
		if e != api.OK {
			continue
		}
		all, _ := bank.Count(b)
		sum, most := 0, 0
		for h := 0; h <= b.Holders; h++ {
			n, _ := bank.Count(marked(b, mark(perch, h)))
			sum, most = sum+n, max(most, n)
		}
		if most != left || sum != all {
			t.Errorf("%+v: most %d, left %d, sum %d, all %d", b, most, left, sum, all)
		}
	}
}

// P1.9: each perch is somebody's, or nobody's, and all widths come to all perches.
func TestAllPerches(t *testing.T) {
	for _, b := range append(someBanks(5, 150, 3, 4), greatest()) {
		a, ok := ask(t, b)
		if !ok {
			continue
		}
		lo, hi, surely, perhaps := 0, 0, 0, 0
		for h := range a.wide {
			lo, hi = lo+a.wide[h].Lo, hi+a.wide[h].Hi
			if surely&a.surely[h] != 0 {
				t.Errorf("%+v: two surely have a perch", b)
			}
			surely, perhaps = surely|a.surely[h], perhaps|a.perhaps[h]
		}
		if lo > b.Perches || hi < b.Perches || perhaps != 1<<b.Perches-1 || slices.Contains(a.whose, 0) {
			t.Errorf("%+v: %+v", b, a)
		}
		if a.count == 1 && (lo != b.Perches || hi != b.Perches || surely != perhaps) {
			t.Errorf("%+v: one truth, %+v", b, a)
		}
	}
}

// less tells why the answers say less than those before.
func less(before, after answers) string {
	for p, n := range after.whose {
		if n&^before.whose[p] != 0 {
			return "whose"
		}
	}
	for p, n := range after.line {
		if before.line[p] != api.BankPerhaps && n != before.line[p] {
			return "line"
		}
	}
	for h, w := range after.wide {
		if w.Lo < before.wide[h].Lo || w.Hi > before.wide[h].Hi {
			return "wide"
		}
		if before.surely[h]&^after.surely[h] != 0 || after.perhaps[h]&^before.perhaps[h] != 0 {
			return "has"
		}
	}
	if after.count > before.count || after.left > before.left {
		return "count"
	}
	return ""
}

// P1.10: with a mark more nothing is returned less exactly, and at most one mark more must be false.
func TestMarkMore(t *testing.T) {
	r := rand.New(rand.NewSource(6))
	for range 200 {
		b := anyBank(r, 3, api.BankMarks-1)
		c := marked(b, mark(r.Intn(b.Perches), r.Intn(b.Holders+1)))
		checkMore(t, b, c)
		m, _, _ := bank.False(b)
		if n, _, _ := bank.False(c); n < m || n > m+1 {
			t.Errorf("%+v, %+v: %d, then %d false", b, c, m, n)
		}
	}
}

// checkMore checks that of the bank c, of which more is known, no less is returned than of b.
func checkMore(t *testing.T, b, c api.Bank) {
	t.Helper()
	after, ok := ask(t, c)
	if !ok {
		return
	}
	before, ok := ask(t, b)
	if !ok {
		t.Errorf("%+v has no truth, %+v has", b, c)
		return
	}
	if s := less(before, after); s != "" {
		t.Errorf("%+v, %+v: less of %s: %+v, then %+v", b, c, s, before, after)
	}
}

// P1.10: with a lease whose lines are known better nothing is returned less exactly, and no fewer marks must be false.
func TestLineBetter(t *testing.T) {
	r := rand.New(rand.NewSource(7))
	tried := 0
	for range 400 {
		b := anyBank(r, 3, 4)
		if len(b.Leases) == 0 {
			continue
		}
		c := b
		c.Leases = slices.Clone(b.Leases)
		l := &c.Leases[r.Intn(len(c.Leases))]
		l.From, l.To = part(r, l.From), part(r, l.To)
		if l.From.Lo >= l.To.Hi {
			continue
		}
		tried++
		checkMore(t, b, c)
		m, _, _ := bank.False(b)
		if n, _, _ := bank.False(c); n < m {
			t.Errorf("%+v, %+v: %d, then %d false", b, c, m, n)
		}
	}
	if tried < 100 {
		t.Error(tried)
	}
}

// part returns a part of a span.
func part(r *rand.Rand, s api.Span) api.Span {
	lo := s.Lo + r.Intn(s.Hi-s.Lo+1)
	return span(lo, lo+r.Intn(s.Hi-lo+1))
}

// P1.10: the order of marks makes no difference but to their numbers.
func TestOrderOfMarks(t *testing.T) {
	r := rand.New(rand.NewSource(8))
	for range 150 {
		b := anyBank(r, 3, api.BankMarks)
		order := r.Perm(len(b.Marks))
		c := b
		c.Marks = make([]api.BankMark, len(b.Marks))
		for i, at := range order {
			c.Marks[at] = b.Marks[i]
		}
		x, _ := ask(t, b)
		y, _ := ask(t, c)
		if !same(x, y) || x.perch != y.perch {
			t.Errorf("%+v, %+v: %+v, %+v", b, c, x, y)
		}
		m, _, _ := bank.False(b)
		n, out, _ := bank.False(c)
		if m != n || !can(every(b), only(c.Marks, ^out)) {
			t.Errorf("%+v, %+v: %d and %d false", b, c, m, n)
		}
		few, e := bank.Clash(b)
		set, f := bank.Clash(c)
		if e != f || bits.OnesCount(uint(few)) != bits.OnesCount(uint(set)) || e == api.OK && can(every(b), only(c.Marks, set)) {
			t.Errorf("%+v, %+v: %d and %d clash", b, c, few, set)
		}
	}
}

// same tells whether answers are, but for the perch that is to be asked.
func same(x, y answers) bool {
	return slices.Equal(x.whose, y.whose) && slices.Equal(x.line, y.line) && slices.Equal(x.surely, y.surely) &&
		slices.Equal(x.perhaps, y.perhaps) && slices.Equal(x.wide, y.wide) && x.count == y.count && x.left == y.left
}

// turned returns the bank turned round.
func turned(b api.Bank) api.Bank {
	c := api.Bank{Perches: b.Perches, Holders: b.Holders}
	for _, l := range b.Leases {
		c.Leases = append(c.Leases, api.BankLease{Holder: l.Holder, From: span(b.Perches-l.To.Hi, b.Perches-l.To.Lo), To: span(b.Perches-l.From.Hi, b.Perches-l.From.Lo)})
	}
	for _, m := range b.Marks {
		c.Marks = append(c.Marks, mark(b.Perches-1-m.Perch, m.Holder))
	}
	return c
}

// back returns a set of perches with their numbers turned round.
func back(set, perches int) int {
	return int(bits.Reverse64(uint64(set)) >> (64 - perches))
}

// P1.10: if the whole bank is turned round perches only change their numbers.
func TestTurnedRound(t *testing.T) {
	for _, b := range append(someBanks(9, 150, 3, api.BankMarks), greatest(), bankB(), bankE()) {
		c := turned(b)
		x, _ := ask(t, b)
		y, _ := ask(t, c)
		slices.Reverse(y.whose)
		slices.Reverse(y.line)
		for h := range y.wide {
			y.surely[h], y.perhaps[h] = back(y.surely[h], b.Perches), back(y.perhaps[h], b.Perches)
		}
		if !same(x, y) {
			t.Errorf("%+v: %+v, turned %+v", b, x, y)
		}
		m, s, _ := bank.False(b)
		n, u, _ := bank.False(c)
		v, e := bank.Clash(b)
		w, f := bank.Clash(c)
		if m != n || s != u || v != w || e != f {
			t.Errorf("%+v: False %d %d, %d %d, Clash %d %d, %d %d", b, m, s, n, u, v, e, w, f)
		}
	}
}

// P11: a call leaves nothing behind that changes a later one.
func TestAgain(t *testing.T) {
	list := someBanks(10, 60, 3, api.BankMarks)
	var before []answers
	for _, b := range list {
		a, _ := ask(t, b)
		before = append(before, a)
	}
	for i := len(list) - 1; i >= 0; i-- {
		if a, _ := ask(t, list[i]); !same(a, before[i]) || a.perch != before[i].perch {
			t.Errorf("%+v: %+v, then %+v", list[i], before[i], a)
		}
	}
}
