package clamp_test

import (
	"math"
	"reflect"
	"testing"

	"bogworks/api"
	"bogworks/clamp"
)

// result is all that a call returns.
type result struct {
	a, b int
	w    api.Span
	e    api.Errno
}

// call is a function of the package, of what it is asked, and whether there always is what it returns if there is a truth.
type call struct {
	name             string
	do               func(c api.Clamp, of, sods int) result
	of, sods, always bool
}

func calls() []call {
	return []call{
		{"Built", func(c api.Clamp, of, sods int) (y result) { y.w, y.e = clamp.Built(c, of); return y }, true, false, true},
		{"Has", func(c api.Clamp, of, sods int) (y result) { y.w, y.e = clamp.Has(c, of); return y }, true, false, true},
		{"Sold", func(c api.Clamp, of, sods int) (y result) { y.w, y.e = clamp.Sold(c, of); return y }, true, false, true},
		{"All", func(c api.Clamp, of, sods int) (y result) { y.w, y.e = clamp.All(c); return y }, false, false, true},
		{"Enough", func(c api.Clamp, of, sods int) (y result) { y.a, y.e = clamp.Enough(c, of, sods); return y }, true, true, true},
		{"Empty", func(c api.Clamp, of, sods int) (y result) { y.a, y.b, y.e = clamp.Empty(c); return y }, false, false, true},
		{"Share", func(c api.Clamp, of, sods int) (y result) { y.a, y.e = clamp.Share(c, sods); return y }, false, true, false},
		{"Clash", func(c api.Clamp, of, sods int) (y result) { y.a, y.e = clamp.Clash(c); return y }, false, false, false},
	}
}

// outside returns spans that are none within two numbers.
func outside(from, to int) []api.Span {
	return []api.Span{
		span(from-1, from), span(from-1, from-1), span(to, to+1), span(to+1, to+1), span(from+1, from), span(to, to-1), span(from-1, to), span(from, to+1), span(to, from),
		span(math.MinInt, math.MaxInt), span(math.MaxInt, math.MinInt), span(math.MinInt, from), span(to, math.MaxInt), span(math.MaxInt, math.MaxInt), span(math.MinInt, math.MinInt),
	}
}

// wrong returns spans that are none within two numbers, or are wider than so much.
func wrong(from, to, wide int) []api.Span {
	return append(outside(from, to), span(from, from+wide+1), span(to-wide-1, to), span(from, to))
}

// spoilt returns clamps that are not valid: N, whose counts clash, with one thing wrong.
func spoilt() (list []api.Clamp) {
	add := func(spoil func(c *api.Clamp)) {
		c := fresh(clampsN())
		spoil(&c)
		list = append(list, c)
	}
	add(func(c *api.Clamp) { c.Piles = nil })
	add(func(c *api.Clamp) { c.Piles, c.Events = nil, nil })
	add(func(c *api.Clamp) { c.Piles, c.Events = []api.ClampPile{}, nil })
	add(func(c *api.Clamp) { c.Piles = c.Piles[:1] })
	add(func(c *api.Clamp) {
		c.Piles = []api.ClampPile{cube(1, 1, 1), cube(1, 1, 1), cube(1, 1, 1), cube(1, 1, 1), cube(1, 1, 1)}
	})
	for _, w := range wrong(1, 10, 1) {
		for _, at := range []int{0, 1} {
			add(func(c *api.Clamp) { c.Piles[at].Long = w })
			add(func(c *api.Clamp) { c.Piles[at].Wide = w })
			add(func(c *api.Clamp) { c.Piles[at].High = w })
		}
	}
	for _, w := range wrong(1, 5, 2) {
		add(func(c *api.Clamp) { c.Pack = w })
	}
	add(func(c *api.Clamp) { *c = then(*c, count(0, 0, 5000), count(0, 0, 5000), count(0, 0, 5000)) })
	add(func(c *api.Clamp) { c.Events = make([]api.ClampEvent, 7) })
	for at := range clampsN().Events {
		for _, n := range []int{-1, 2, 3, math.MinInt, math.MaxInt} {
			add(func(c *api.Clamp) { c.Events[at].Kind = n })
			add(func(c *api.Clamp) { c.Events[at].Clamp = n })
		}
		for _, w := range wrong(0, 5000, 3) {
			add(func(c *api.Clamp) { c.Events[at] = sale(1, w.Lo, w.Hi) })
		}
		for _, w := range outside(0, 5000) {
			add(func(c *api.Clamp) { c.Events[at] = count(0, w.Lo, w.Hi) })
		}
	}
	return append(list, api.Clamp{})
}

// ErrArg comes first, also where a clamp, or a number of sods, is none, and the counts clash; with it all else is zero (R1, R2).
func TestErrArg(t *testing.T) {
	for i, c := range spoilt() {
		for _, f := range calls() {
			for _, n := range []int{0, 1, -1, math.MinInt, math.MaxInt} {
				for _, m := range []int{0, 7, -1, 20001} {
					if y := f.do(c, n, m); y != (result{e: api.ErrArg}) {
						t.Errorf("%d: %+v: %s %d %d: %v", i, c, f.name, n, m, y)
					}
				}
			}
		}
	}
}

// valids returns clamps that are valid and have a truth, though a thing more or less of one of their fields would not be.
func valids() []api.Clamp {
	near := api.ClampPile{Long: span(1, 2), Wide: span(9, 10), High: span(1, 1)}
	least := then(clamps(1, 1, cube(1, 1, 1)), sale(0, 0, 0), count(0, 0, 5000), sale(0, 0, 3), sale(0, 0, 1), count(0, 0, 0), sale(0, 0, 3))
	most := then(clamps(5, 5, cube(10, 10, 10), near), sale(0, 4997, 5000), count(1, 0, 5000), count(0, 0, 0), count(1, 45, 50))
	counts := then(clamps(3, 5, near, cube(10, 1, 1)), count(1, 30, 5000), count(0, 0, 100))
	return []api.Clamp{clampsC(), clampsK(), greatest(), clamps(1, 3, near), clamps(1, 1, near), least, most, counts, apart(), short(9), short(9, sale(0, 9, 9))}
}

// Of clamps that are valid, and have a truth, no call has an error, but that there is none of what it returns.
func TestNoError(t *testing.T) {
	for i, c := range valids() {
		for _, f := range calls() {
			for n := range c.Piles {
				for _, sods := range []int{0, 1, 17, 5000, 5001, 19999, 20000} {
					y := f.do(c, n, sods)
					if f.always && y.e != api.OK || !f.always && y.e != api.OK && y != (result{e: api.ErrNone}) || f.name == "Clash" && y.e != api.ErrNone {
						t.Error(i, f.name, n, sods, y)
					}
				}
			}
		}
	}
}

// hopeless has no truth, even without its counts.
func hopeless() api.Clamp { return then(clampsK(), sale(1, 30, 30), sale(1, 3, 3)) }

// ErrRange comes before ErrClash and ErrNone; of what a function is not asked it makes no difference.
func TestErrRange(t *testing.T) {
	refused := result{e: api.ErrRange}
	for i, c := range append(valids(), clampsN(), three(), hopeless()) {
		for _, f := range calls() {
			for _, sods := range []int{0, 20000} {
				want := f.do(c, 0, sods)
				for _, n := range []int{-1, len(c.Piles), math.MinInt, math.MaxInt} {
					if y := f.do(c, n, sods); f.of && y != refused || !f.of && y != want {
						t.Error(i, f.name, n, sods, y)
					}
				}
			}
			for n := range c.Piles {
				want := f.do(c, n, 0)
				for _, sods := range []int{-1, 20001, math.MinInt, math.MaxInt} {
					if y := f.do(c, n, sods); f.sods && y != refused || !f.sods && y != want {
						t.Error(i, f.name, n, sods, y)
					}
				}
			}
		}
	}
}

// ErrClash is that of all functions but Clash, and comes before ErrNone.
func TestErrClash(t *testing.T) {
	great := then(greatest(), count(1, 2187, 2430), count(3, 4374, 5000))
	for i, c := range []api.Clamp{clampsN(), three(), great, short(9, count(0, 8, 8)), hopeless(), short(9, sale(0, 10, 10)), then(short(9, count(0, 1, 1)), sale(0, 9, 9), sale(0, 1, 1))} {
		for _, f := range calls() {
			for n := range c.Piles {
				for _, sods := range []int{0, 1, 20000} {
					if y := f.do(c, n, sods); f.name != "Clash" && y != (result{e: api.ErrClash}) || f.name == "Clash" && y.e != api.OK {
						t.Error(i, f.name, n, sods, y)
					}
				}
			}
		}
	}
}

// With ErrNone all else is zero.
func TestErrNone(t *testing.T) {
	if n, e := clamp.Share(clampsC(), 45); n != 0 || e != api.ErrNone {
		t.Error(n, e)
	}
	if n, e := clamp.Clash(clampsK()); n != 0 || e != api.ErrNone {
		t.Error(n, e)
	}
}

// R4: no argument is changed. R3: a nil list is an empty one.
func TestArguments(t *testing.T) {
	none := clampsC()
	none.Events = nil
	empty := none
	empty.Events = []api.ClampEvent{}
	for _, f := range calls() {
		for _, sods := range []int{0, 24, 30, 49} {
			if y, z := f.do(empty, 1, sods), f.do(none, 1, sods); y != z {
				t.Error(f.name, y, z)
			}
		}
		for _, c := range append(valids(), clampsN(), three(), hopeless()) {
			before := fresh(c)
			f.do(c, 0, 20)
			if !reflect.DeepEqual(fresh(c), before) {
				t.Error(f.name, c, before)
			}
		}
	}
}

// R4: what lies behind a list is not changed.
func TestBehindLists(t *testing.T) {
	whole := then(clampsN(), count(0, 1, 1), sale(1, 7, 7))
	whole.Piles = append(fresh(whole).Piles, cube(7, 7, 7))
	c := fresh(whole)
	c.Piles, c.Events = c.Piles[:2], c.Events[:4]
	for _, f := range calls() {
		f.do(c, 1, 20)
	}
	c.Piles, c.Events = c.Piles[:3], c.Events[:6]
	if !reflect.DeepEqual(c, whole) {
		t.Error(c)
	}
}

// P1: of no clamps a call panics.
func TestAnyArguments(t *testing.T) {
	some := []int{math.MinInt, -1, 0, 1, 2, 5, 10, 5000, math.MaxInt}
	for _, x := range some {
		for _, y := range some {
			p := api.ClampPile{Long: span(x, y), Wide: span(y, x), High: span(x, x)}
			for _, c := range []api.Clamp{
				then(clamps(x, y, p, p), sale(x, y, x), count(y, x, y)),
				then(clamps(1, 3, cube(1, 2, 3), p), sale(0, x, y)),
				then(clamps(1, 3, cube(1, 2, 3)), sale(0, x, y), count(0, y, x)),
				then(clamps(1, 3, cube(1, 2, 3)), api.ClampEvent{Kind: x, Clamp: y, Sods: span(1, 2)}),
			} {
				for _, f := range calls() {
					for _, n := range some {
						f.do(c, n, x)
						f.do(clampsK(), n, y)
						f.do(clampsN(), x, n)
					}
				}
			}
		}
	}
}
