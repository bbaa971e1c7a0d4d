package burst_test

import (
	"math"
	"reflect"
	"testing"

	"bogworks/api"
	"bogworks/burst"
)

// result is all that a call returns.
type result struct {
	a, b int
	w    api.Span
	e    api.Errno
}

// call is a function of the package, of what it is asked, and whether there always is what it returns if there is a truth.
type call struct {
	name              string
	do                func(b api.Burst, bank, day int) result
	bank, day, always bool
}

func calls() []call {
	return []call{
		{"Water", func(b api.Burst, bank, day int) (y result) { y.w, y.e = burst.Water(b, day); return y }, false, true, true},
		{"Margin", func(b api.Burst, bank, day int) (y result) { y.w, y.e = burst.Margin(b, bank, day); return y }, true, true, true},
		{"Moves", func(b api.Burst, bank, day int) (y result) { y.a, y.b, y.e = burst.Moves(b, day); return y }, false, true, true},
		{"Safe", func(b api.Burst, bank, day int) (y result) { y.a, y.e = burst.Safe(b, day); return y }, false, true, true},
		{"Until", func(b api.Burst, bank, day int) (y result) { y.a, y.e = burst.Until(b); return y }, false, false, false},
		{"First", func(b api.Burst, bank, day int) (y result) { y.a, y.e = burst.First(b, day); return y }, false, true, false},
		{"Spare", func(b api.Burst, bank, day int) (y result) { y.a, y.e = burst.Spare(b, bank); return y }, true, false, false},
		{"Clash", func(b api.Burst, bank, day int) (y result) { y.a, y.e = burst.Clash(b); return y }, false, false, false},
	}
}

// outside returns spans that are none within two numbers.
func outside(from, to int) []api.Span {
	return []api.Span{
		span(from-1, from), span(from-1, from-1), span(to, to+1), span(to+1, to+1), span(from+1, from), span(to, to-1), span(from-1, to), span(from, to+1), span(to, from),
		span(math.MinInt, math.MaxInt), span(math.MaxInt, math.MinInt), span(math.MinInt, from), span(to, math.MaxInt), span(math.MaxInt, math.MaxInt), span(math.MinInt, math.MinInt),
	}
}

// spoilt returns bogs that are not valid: N, whose signs clash, with one thing wrong.
func spoilt() (list []api.Burst) {
	add := func(spoil func(b *api.Burst)) {
		b := fresh(bogN())
		spoil(&b)
		list = append(list, b)
	}
	add(func(b *api.Burst) { b.Banks = nil })
	add(func(b *api.Burst) { b.Banks, b.Signs = nil, nil })
	add(func(b *api.Burst) { b.Banks, b.Signs = []api.BurstBank{}, []api.BurstSign{brown(0)} })
	add(func(b *api.Burst) { b.Banks = b.Banks[:1] })
	add(func(b *api.Burst) { b.Banks = make([]api.BurstBank, 5) })
	for _, w := range outside(0, 60) {
		add(func(b *api.Burst) { b.Banks[0].Bears = w })
		add(func(b *api.Burst) { b.Banks[1].Bears = w })
	}
	for _, w := range outside(0, 20) {
		add(func(b *api.Burst) { b.Banks[0].Cut = w })
		add(func(b *api.Burst) { b.Banks[1].Cut = w })
		add(func(b *api.Burst) { b.Rain[0] = w })
		add(func(b *api.Burst) { b.Rain[1] = w })
	}
	for _, w := range outside(-40, 40) {
		add(func(b *api.Burst) { b.Water = w })
	}
	add(func(b *api.Burst) { b.Rain = nil })
	add(func(b *api.Burst) { b.Rain, b.Signs = nil, nil })
	add(func(b *api.Burst) { b.Rain, b.Signs = []api.Span{}, []api.BurstSign{brown(0)} })
	add(func(b *api.Burst) { b.Rain = b.Rain[:1] })
	add(func(b *api.Burst) { b.Rain = make([]api.Span, 6) })
	for _, n := range []int{-1, 21, math.MinInt, math.MaxInt} {
		add(func(b *api.Burst) { b.Drain = n })
	}
	add(func(b *api.Burst) { b.Signs = make([]api.BurstSign, 6) })
	for _, at := range []int{0, 1} {
		for _, n := range []int{-1, 3, 4, math.MinInt, math.MaxInt} {
			add(func(b *api.Burst) { b.Signs[at].Kind = n })
			add(func(b *api.Burst) { b.Signs[at].Day = n })
			add(func(b *api.Burst) { b.Signs[at] = brown(n) })
		}
		for _, n := range []int{-1, 2, 3, math.MinInt, math.MaxInt} {
			add(func(b *api.Burst) { b.Signs[at].Bank = n })
			add(func(b *api.Burst) { b.Signs[at] = crack(n, 0) })
		}
	}
	return append(list, api.Burst{})
}

// ErrArg comes first, also where a bank, or a day, is none, and the signs clash; with it all else is zero (R1, R2).
func TestErrArg(t *testing.T) {
	for i, b := range spoilt() {
		for _, f := range calls() {
			for _, n := range []int{0, 1, -1, math.MinInt, math.MaxInt} {
				for _, m := range []int{0, 2, 3, math.MinInt} {
					if y := f.do(b, n, m); y != (result{e: api.ErrArg}) {
						t.Error(i, f.name, n, m, y)
					}
				}
			}
		}
	}
}

// valids returns bogs that are valid and have a truth, though a thing more or less of one of their fields would not be.
func valids() []api.Burst {
	low := dry(span(-40, -40), 0, 1, bank(0, 0, 0, 0), bank(0, 0, 20, 20))
	high := bog(span(40, 40), 20, []api.Span{span(20, 20)}, bank(60, 60, 20, 20), bank(60, 60, 0, 0))
	signs := then(bogB(), swell(1, 2), crack(1, 2), swell(1, 2), brown(2), swell(0, 2))
	full := then(greatest(0), crack(0, 0), crack(3, 5), swell(3, 5), brown(5), brown(0))
	return []api.Burst{bogB(), bogD(), greatest(0), greatest(20), low, high, signs, full, tops(), then(bogB(), brown(2), api.BurstSign{Kind: api.BurstBrown, Bank: -1, Day: 2}), then(high, crack(0, 0), swell(0, 1), brown(1))}
}

// Of bogs that are valid, and have a truth, no call has an error, but that there is none of what it returns.
func TestNoError(t *testing.T) {
	for i, b := range valids() {
		for _, f := range calls() {
			for n := range b.Banks {
				for day := range days(b) {
					y := f.do(b, n, day)
					if f.always && y.e != api.OK || !f.always && y.e != api.OK && y != (result{e: api.ErrNone}) || f.name == "Clash" && y.e != api.ErrNone {
						t.Error(i, f.name, n, day, y)
					}
				}
			}
		}
	}
}

// ErrRange comes before ErrClash and ErrNone; of what a function is not asked it makes no difference.
func TestErrRange(t *testing.T) {
	refused := result{e: api.ErrRange}
	for i, b := range append(valids(), bogN(), three()) {
		for _, f := range calls() {
			for day := range days(b) {
				want := f.do(b, 0, day)
				for _, n := range []int{-1, len(b.Banks), math.MinInt, math.MaxInt} {
					if y := f.do(b, n, day); f.bank && y != refused || !f.bank && y != want {
						t.Error(i, f.name, n, day, y)
					}
				}
			}
			for n := range b.Banks {
				want := f.do(b, n, 0)
				for _, day := range []int{-1, days(b), math.MinInt, math.MaxInt} {
					if y := f.do(b, n, day); f.day && y != refused || !f.day && y != want {
						t.Error(i, f.name, n, day, y)
					}
				}
			}
		}
	}
}

// ErrClash is that of all functions but Clash, and comes before ErrNone.
func TestErrClash(t *testing.T) {
	great := then(greatest(0), brown(0), swell(3, 5), swell(2, 0), crack(3, 0), crack(2, 5))
	great.Rain[2].Lo = 16
	for i, b := range []api.Burst{bogN(), three(), great, then(exact(9, 0, 3, 8), crack(0, 0)), then(exact(14, 0, 0, 14), brown(1)), then(exact(9, 0, 3, 60), swell(0, 0))} {
		for _, f := range calls() {
			for n := range b.Banks {
				for day := range days(b) {
					if y := f.do(b, n, day); f.name != "Clash" && y != (result{e: api.ErrClash}) || f.name == "Clash" && (y.e != api.OK || y.a == 0) {
						t.Error(i, f.name, n, day, y)
					}
				}
			}
		}
	}
}

// With ErrNone all else is zero.
func TestErrNone(t *testing.T) {
	moves := exact(9, 0, 3, 60, 8)
	if n, e := burst.Until(moves); n != 0 || e != api.ErrNone {
		t.Error(n, e)
	}
	if n, e := burst.First(exact(9, 0, 3, 60, 12), 1); n != 0 || e != api.ErrNone {
		t.Error(n, e)
	}
	if n, e := burst.Spare(moves, 1); n != 0 || e != api.ErrNone {
		t.Error(n, e)
	}
	if n, e := burst.Clash(moves); n != 0 || e != api.ErrNone {
		t.Error(n, e)
	}
}

// R8: the bank of a sign of brown water is not looked at.
func TestBankOfBrown(t *testing.T) {
	for _, n := range []int{0, 1, 2, -1, 99, math.MinInt, math.MaxInt} {
		for _, b := range []api.Burst{bogB(), bogD(), bogN()} {
			c, d := then(b, brown(2)), then(b, api.BurstSign{Kind: api.BurstBrown, Bank: n, Day: 2})
			for _, f := range calls() {
				for day := range 4 {
					if y, z := f.do(c, 1, day), f.do(d, 1, day); y != z {
						t.Error(n, f.name, day, y, z)
					}
				}
			}
		}
	}
}

// P8.9, R4: no argument is changed. R3: a nil list is an empty one.
func TestArguments(t *testing.T) {
	empty, none := bogB(), bogB()
	empty.Signs, none.Signs = []api.BurstSign{}, nil
	for _, f := range calls() {
		for day := range 4 {
			if y, z := f.do(empty, 1, day), f.do(none, 1, day); y != z {
				t.Error(f.name, y, z)
			}
		}
		for _, b := range append(valids(), bogN(), three()) {
			before := fresh(b)
			f.do(b, 0, 1)
			if !reflect.DeepEqual(fresh(b), before) {
				t.Error(f.name, b, before)
			}
		}
	}
}

// P8.9, R4: what lies behind a list is not changed.
func TestBehindLists(t *testing.T) {
	whole := then(bogN(), brown(2), crack(0, 0))
	whole.Rain = append(fresh(whole).Rain, span(7, 7))
	whole.Banks = append(fresh(whole).Banks, bank(1, 2, 3, 4))
	b := fresh(whole)
	b.Rain, b.Banks, b.Signs = b.Rain[:2], b.Banks[:2], b.Signs[:2]
	for _, f := range calls() {
		f.do(b, 1, 2)
	}
	b.Rain, b.Banks, b.Signs = b.Rain[:3], b.Banks[:3], b.Signs[:4]
	if !reflect.DeepEqual(b, whole) {
		t.Error(b)
	}
}

// P1: of no bog a call panics.
func TestAnyArguments(t *testing.T) {
	numbers := []int{math.MinInt, -1, 0, 1, 2, 10, 60, math.MaxInt}
	for _, x := range numbers {
		for _, y := range numbers {
			b := then(bog(span(x, y), y, []api.Span{span(x, y), span(y, y)}, bank(x, y, y, x), bank(y, y, x, y)), crack(x, y), brown(y))
			some := then(bogB(), api.BurstSign{Kind: api.BurstBrown, Bank: x, Day: 2})
			some.Water, some.Drain = span(max(-40, min(x, y, 40)), 40), max(0, min(y, 20))
			for _, f := range calls() {
				for _, n := range numbers {
					f.do(b, n, x)
					f.do(some, x, n)
					f.do(bogN(), x, n)
					f.do(bogB(), n, y)
					f.do(then(bogB(), api.BurstSign{Kind: n, Bank: x, Day: y}), 0, y)
				}
			}
		}
	}
}
