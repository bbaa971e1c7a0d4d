package cut_test

import (
	"math"
	"reflect"
	"testing"

	"bogworks/api"
	"bogworks/cut"
)

// result is all that a call returns.
type result struct {
	a, b int
	w    api.Span
	e    api.Errno
}

// asked is what a call can be asked of beside the cut.
type asked struct{ boat, loads, day int }

// call is a function of the package, of what it is asked, and whether there always is what it returns if there is a truth.
type call struct {
	name                     string
	do                       func(c api.Cut, x asked) result
	boat, loads, day, always bool
}

func calls() []call {
	return []call{
		{"Depth", func(c api.Cut, x asked) (y result) { y.w, y.e = cut.Depth(c, x.day); return y }, false, false, true, true},
		{"Leak", func(c api.Cut, x asked) (y result) { y.w, y.e = cut.Leak(c); return y }, false, false, false, true},
		{"Floats", func(c api.Cut, x asked) (y result) { y.a, y.e = cut.Floats(c, x.boat, x.loads, x.day); return y }, true, true, true, true},
		{"Loads", func(c api.Cut, x asked) (y result) { y.a, y.b, y.e = cut.Loads(c, x.boat, x.day); return y }, true, false, true, true},
		{"Days", func(c api.Cut, x asked) (y result) { y.a, y.b, y.e = cut.Days(c, x.boat, x.loads); return y }, true, true, false, true},
		{"Until", func(c api.Cut, x asked) (y result) { y.a, y.e = cut.Until(c, x.boat, x.loads, x.day); return y }, true, true, true, false},
		{"Together", func(c api.Cut, x asked) (y result) { y.a, y.e = cut.Together(c, x.day); return y }, false, false, true, true},
		{"Clash", func(c api.Cut, x asked) (y result) { y.a, y.e = cut.Clash(c); return y }, false, false, false, false},
	}
}

// outside returns spans that are none within two numbers.
func outside(from, to int) []api.Span {
	return []api.Span{
		span(from-1, from), span(from-1, from-1), span(to, to+1), span(to+1, to+1), span(from+1, from), span(to, to-1), span(from-1, to), span(from, to+1),
		span(math.MinInt, math.MaxInt), span(math.MaxInt, math.MinInt), span(math.MinInt, from), span(to, math.MaxInt), span(math.MaxInt, math.MaxInt), span(math.MinInt, math.MinInt),
	}
}

// fresh returns a cut that shares no memory with another one.
func fresh(c api.Cut) api.Cut {
	c.Rain = append([]api.Span(nil), c.Rain...)
	c.Boats = append([]api.CutBoat(nil), c.Boats...)
	return then(c)
}

// spoilt returns cuts that are not valid: N, whose looks clash, with one thing wrong.
func spoilt() (list []api.Cut) {
	add := func(spoil func(c *api.Cut)) {
		c := fresh(cutN())
		spoil(&c)
		list = append(list, c)
	}
	add(func(c *api.Cut) { c.Rain = nil })
	add(func(c *api.Cut) { c.Rain, c.Looks = nil, nil })
	add(func(c *api.Cut) { c.Rain, c.Boats, c.Looks = []api.Span{}, []api.CutBoat{}, []api.CutLook{} })
	add(func(c *api.Cut) { c.Rain = make([]api.Span, 9) })
	add(func(c *api.Cut) { c.Rain = append(c.Rain, c.Rain...); c.Rain = append(c.Rain, span(0, 0)) })
	for _, w := range outside(0, 30) {
		add(func(c *api.Cut) { c.Rain[0] = w })
		add(func(c *api.Cut) { c.Rain[3] = w })
	}
	for _, n := range []int{-1, 0, 11, 101, math.MinInt, math.MaxInt} {
		add(func(c *api.Cut) { c.Most = n })
	}
	add(func(c *api.Cut) { c.Most, c.Depth = 0, span(0, 0) })
	add(func(c *api.Cut) { c.Most, c.Depth = 101, span(0, 0) })
	for _, w := range outside(0, 20) {
		add(func(c *api.Cut) { c.Depth = w })
	}
	for _, w := range outside(0, 10) {
		add(func(c *api.Cut) { c.Leak = w })
	}
	add(func(c *api.Cut) { c.Boats = make([]api.CutBoat, 5) })
	for _, w := range outside(0, 100) {
		add(func(c *api.Cut) { c.Boats[0].Draws = w })
		add(func(c *api.Cut) { c.Boats[1].Draws = w })
		add(func(c *api.Cut) { c.Looks[0].Depth = w })
		add(func(c *api.Cut) { c.Looks[1].Depth = w })
	}
	for _, n := range []int{-1, 11, math.MinInt, math.MaxInt} {
		add(func(c *api.Cut) { c.Boats[0].Per = n })
		add(func(c *api.Cut) { c.Boats[1].Per = n })
		add(func(c *api.Cut) { c.Boats[0].Room = n })
		add(func(c *api.Cut) { c.Boats[1].Room = n })
	}
	add(func(c *api.Cut) { c.Looks = make([]api.CutLook, 6) })
	for _, n := range []int{-1, 5, 8, math.MinInt, math.MaxInt} {
		add(func(c *api.Cut) { c.Looks[0].Day = n })
		add(func(c *api.Cut) { c.Looks[1].Day = n })
	}
	add(func(c *api.Cut) { c.Rain = c.Rain[:2] })
	return append(list, api.Cut{})
}

// ErrArg comes first, also where a number is none and the looks clash; with it all else is zero (R1, R2).
func TestErrArg(t *testing.T) {
	for i, c := range spoilt() {
		for _, f := range calls() {
			for _, n := range []int{0, 1, -1, math.MinInt, math.MaxInt} {
				for _, m := range []int{0, 3, 11, math.MinInt} {
					if y := f.do(c, asked{n, m, m}); y != (result{e: api.ErrArg}) {
						t.Error(i, f.name, n, m, y)
					}
				}
			}
		}
	}
}

// valids returns cuts that are valid and have a truth, though a thing more or less of one of their fields would not be.
func valids() []api.Cut {
	low := aboard(water(span(0, 0), span(0, 0), 1, span(0, 0)), boat(0, 0, 0, 0), boat(100, 100, 10, 10))
	high := aboard(water(span(100, 100), span(10, 10), 100, span(30, 30)), boat(0, 100, 10, 10))
	looks := then(cutC(), look(0, 0, 100), look(4, 0, 100), look(4, 20, 100), look(1, 0, 16), look(4, 20, 20))
	full := then(greatest(), look(8, 100, 100), look(8, 0, 100), look(0, 0, 0), look(0, 0, 100), look(4, 50, 50))
	return []api.Cut{cutC(), cutX(), greatest(), low, high, looks, full, aboard(cutC()), then(low, look(0, 0, 0), look(1, 0, 100)), then(high, look(1, 100, 100))}
}

// numbersOf returns all that can be asked of a cut.
func numbersOf(c api.Cut) (list []asked) {
	for day := range days(c) {
		if len(c.Boats) == 0 {
			list = append(list, asked{day: day})
		}
		for i, b := range c.Boats {
			for loads := range b.Room + 1 {
				list = append(list, asked{i, loads, day})
			}
		}
	}
	return list
}

// Of cuts that are valid, and have a truth, no call has an error, but that there is no such day, or clash.
func TestNoError(t *testing.T) {
	for i, c := range valids() {
		for _, f := range calls() {
			for _, x := range numbersOf(c) {
				if f.boat && len(c.Boats) == 0 {
					continue
				}
				y := f.do(c, x)
				if f.always && y.e != api.OK || !f.always && y.e != api.OK && y != (result{e: api.ErrNone}) || f.name == "Clash" && y.e != api.ErrNone {
					t.Error(i, f.name, x, y)
				}
			}
		}
	}
}

// ErrRange comes before ErrClash and ErrNone; of what a function is not asked it makes no difference. Without boats none is one.
func TestErrRange(t *testing.T) {
	refused := result{e: api.ErrRange}
	for i, c := range append(valids(), cutN(), three()) {
		for _, f := range calls() {
			want := f.do(c, asked{})
			if f.boat && len(c.Boats) == 0 && want != refused {
				t.Error(i, f.name, want)
			}
			for _, n := range []int{-1, len(c.Boats), math.MinInt, math.MaxInt} {
				if y := f.do(c, asked{boat: n}); f.boat && y != refused || !f.boat && y != want {
					t.Error(i, f.name, n, y)
				}
			}
			for _, n := range []int{-1, days(c), math.MinInt, math.MaxInt} {
				if y := f.do(c, asked{day: n}); f.day && y != refused || !f.day && y != want {
					t.Error(i, f.name, n, y)
				}
			}
			for b := range c.Boats {
				want := f.do(c, asked{boat: b})
				for _, n := range []int{-1, c.Boats[b].Room + 1, math.MinInt, math.MaxInt} {
					if y := f.do(c, asked{b, n, 0}); f.loads && y != refused || !f.loads && y != want {
						t.Error(i, f.name, b, n, y)
					}
				}
			}
		}
	}
}

// ErrClash is that of all functions but Clash, and comes before ErrNone.
func TestErrClash(t *testing.T) {
	great := then(greatest(), look(7, 0, 49), look(8, 80, 100))
	rim := then(still(3, 5, boat(9, 9, 9, 9)), look(1, 6, 100))
	for i, c := range []api.Cut{cutN(), aboard(three(), boat(0, 9, 1, 1)), great, rim, then(rim, look(0, 3, 3), look(1, 3, 3))} {
		for _, f := range calls() {
			for _, x := range numbersOf(c) {
				if y := f.do(c, x); f.name != "Clash" && y != (result{e: api.ErrClash}) || f.name == "Clash" && (y.e != api.OK || y.a == 0) {
					t.Error(i, f.name, x, y)
				}
			}
		}
	}
}

// With ErrNone all else is zero.
func TestErrNone(t *testing.T) {
	if n, e := cut.Until(cutC(), 1, 2, 3); n != 0 || e != api.ErrNone {
		t.Error(n, e)
	}
	if n, e := cut.Clash(cutX()); n != 0 || e != api.ErrNone {
		t.Error(n, e)
	}
}

// P6.8, R4: no argument is changed. R3: a nil list is an empty one.
func TestArguments(t *testing.T) {
	empty, none := cutC(), cutC()
	empty.Boats, none.Boats = []api.CutBoat{}, nil
	empty.Looks, none.Looks = []api.CutLook{}, nil
	for _, f := range calls() {
		for day := range 5 {
			if y, z := f.do(empty, asked{day: day}), f.do(none, asked{day: day}); y != z {
				t.Error(f.name, y, z)
			}
		}
		for _, c := range append(valids(), cutN(), three()) {
			before := fresh(c)
			f.do(c, asked{0, 0, 1})
			if !reflect.DeepEqual(fresh(c), before) {
				t.Error(f.name, c, before)
			}
		}
	}
}

// P6.8, R4: what lies behind a list is not changed.
func TestBehindLists(t *testing.T) {
	whole := then(cutN(), look(0, 0, 0), look(1, 6, 9))
	whole.Rain = append(fresh(whole).Rain, span(7, 7))
	whole = aboard(whole, append(fresh(whole).Boats, boat(1, 1, 1, 1))...)
	c := fresh(whole)
	c.Rain, c.Boats, c.Looks = c.Rain[:4], c.Boats[:2], c.Looks[:2]
	for _, f := range calls() {
		f.do(c, asked{0, 1, 2})
	}
	c.Rain, c.Boats, c.Looks = c.Rain[:5], c.Boats[:3], c.Looks[:4]
	if !reflect.DeepEqual(c, whole) {
		t.Error(c)
	}
}

// P1: of no cut a call panics.
func TestAnyArguments(t *testing.T) {
	numbers := []int{math.MinInt, -1, 0, 1, 2, 10, 100, math.MaxInt}
	for _, x := range numbers {
		for _, y := range numbers {
			c := then(aboard(water(span(x, y), span(y, x), y, span(x, y), span(y, y)), boat(x, y, y, x), boat(y, y, x, y)), look(x, y, x), look(y, x, y))
			some := cutX()
			some.Depth, some.Leak = span(0, max(0, min(x, y))), span(y, y)
			for _, f := range calls() {
				for _, n := range numbers {
					f.do(c, asked{n, x, y})
					f.do(some, asked{x, n, y})
					f.do(cutN(), asked{x, y, n})
					f.do(cutC(), asked{n, y, x})
					f.do(then(cutC(), look(n, x, y)), asked{0, 0, y})
				}
			}
		}
	}
}
