package drain_test

import (
	"math"
	"reflect"
	"testing"

	"bogworks/api"
	"bogworks/drain"
)

// result is all that a call returns.
type result struct {
	x, y int
	w    api.Span
	e    api.Errno
}

// call is a function of the package, of how many banks it is asked, and whether there always is what it returns if there is a truth.
type call struct {
	name   string
	do     func(d api.Drain, a, b int) result
	asks   int
	always bool
}

func calls() []call {
	return []call{
		{"Next", func(d api.Drain, a, b int) (y result) { y.x, y.e = drain.Next(d, a); return y }, 1, true},
		{"Ends", func(d api.Drain, a, b int) (y result) { y.x, y.e = drain.Ends(d, a); return y }, 1, true},
		{"Water", func(d api.Drain, a, b int) (y result) { y.w, y.e = drain.Water(d, a); return y }, 1, true},
		{"Flow", func(d api.Drain, a, b int) (y result) { y.w, y.e = drain.Flow(d, a, b); return y }, 2, true},
		{"Breaks", func(d api.Drain, a, b int) (y result) { y.x, y.y, y.e = drain.Breaks(d); return y }, 0, true},
		{"Dig", func(d api.Drain, a, b int) (y result) { y.x, y.e = drain.Dig(d, a, b); return y }, 2, false},
		{"Stop", func(d api.Drain, a, b int) (y result) { y.x, y.y, y.e = drain.Stop(d); return y }, 0, true},
		{"Clash", func(d api.Drain, a, b int) (y result) { y.x, y.e = drain.Clash(d); return y }, 0, false},
	}
}

// fresh returns drains that share no memory with others.
func fresh(d api.Drain) api.Drain {
	d.Banks = append([]api.DrainBank(nil), d.Banks...)
	return then(under(joined(d)))
}

// outside returns spans that are none from 0 to 20, or are too wide.
func outside() []api.Span {
	return []api.Span{
		span(-1, 0), span(-1, 1), span(-1, -1), span(20, 21), span(19, 21), span(21, 21), span(1, 0), span(20, 19), span(6, 4), span(0, 3), span(17, 20), span(0, 20), span(5, 8),
		span(math.MinInt, math.MaxInt), span(math.MaxInt, math.MinInt), span(math.MinInt, 0), span(20, math.MaxInt), span(math.MaxInt, math.MaxInt), span(math.MinInt, math.MinInt), span(0, math.MinInt), span(math.MaxInt, 20),
	}
}

// badPairs returns pairs that are not those of two different banks of four.
func badPairs() (pairs []api.DrainWay) {
	for _, n := range []int{-1, 4, 5, math.MinInt, math.MaxInt} {
		pairs = append(pairs, way(n, 0), way(3, n), way(n, n), way(n, -n))
	}
	return append(pairs, way(0, 0), way(3, 3))
}

// spoilt returns drains that are not valid: N, with what was seen clashing, and with one thing wrong.
func spoilt() (all []api.Drain) {
	add := func(spoil func(d *api.Drain)) {
		d := fresh(drainsN())
		spoil(&d)
		all = append(all, d)
	}
	add(func(d *api.Drain) { d.Banks = nil })
	add(func(d *api.Drain) { *d = api.Drain{Banks: []api.DrainBank{}} })
	add(func(d *api.Drain) { d.Banks = append(d.Banks, d.Banks[:2]...) })
	add(func(d *api.Drain) { *d = banks(make([]api.DrainBank, 6)...) })
	add(func(d *api.Drain) { d.Banks = d.Banks[:3] })
	for _, w := range outside() {
		add(func(d *api.Drain) { d.Banks[0].Level = w })
		add(func(d *api.Drain) { d.Banks[3].Level = w })
		add(func(d *api.Drain) { d.Banks[0].Yield = w })
		add(func(d *api.Drain) { d.Banks[3].Yield = w })
	}
	add(func(d *api.Drain) { *d = joined(*d, d.Drains...) })
	add(func(d *api.Drain) { *d = under(*d, right(0, 1, 1), right(0, 1, 1), right(0, 1, 1)) })
	add(func(d *api.Drain) { *d = then(*d, way(0, 1), way(0, 1), way(0, 1)) })
	for _, w := range badPairs() {
		add(func(d *api.Drain) { d.Drains[0] = w })
		add(func(d *api.Drain) { d.Drains[3] = w })
		add(func(d *api.Drain) { d.Seen[0] = w })
		add(func(d *api.Drain) { d.Seen[1] = w })
		add(func(d *api.Drain) { d.Rights[0].Of, d.Rights[0].To = w.A, w.B })
		add(func(d *api.Drain) { d.Rights[1].Of, d.Rights[1].To = w.A, w.B })
	}
	for _, n := range []int{-1, 101, math.MinInt, math.MaxInt} {
		add(func(d *api.Drain) { d.Rights[0].Most = n })
		add(func(d *api.Drain) { d.Rights[1].Most = n })
	}
	// A single bank can be joined with no other one.
	one := banks(bank(1, 1, 1, 1))
	return append(all, joined(one, way(0, 0)), joined(one, way(0, 1)), then(one, way(0, 0)), under(one, right(0, 0, 1)), api.Drain{})
}

// ErrArg comes first, also where a bank is none, what was seen clashes, or there are too many drains; with it all else is zero (R1, R2).
func TestErrArg(t *testing.T) {
	for i, d := range spoilt() {
		for _, f := range calls() {
			for _, a := range []int{0, 1, -1, 4, math.MinInt, math.MaxInt} {
				for _, b := range []int{0, 3, 5, math.MinInt} {
					if y := f.do(d, a, b); y != (result{e: api.ErrArg}) {
						t.Error(i, f.name, a, b, y)
					}
				}
			}
		}
	}
}

// valids returns drains that are valid and have a truth, though a thing more or less of one of their fields would not be.
func valids() []api.Drain {
	low := joined(banks(bank(0, 0, 0, 0), bank(0, 2, 0, 2)), way(0, 1))
	high := joined(banks(bank(20, 20, 20, 20), bank(18, 20, 18, 20)), way(1, 0))
	full := under(then(greatest(), way(0, 2), way(0, 2), way(4, 3)), right(0, 1, 100))
	full.Rights = full.Rights[:api.DrainRights]
	seen := then(drainsE(), way(0, 1), way(1, 3), way(2, 3))
	return []api.Drain{drainsD(), drainsE(), greatest(), low, high, full, seen, banks(bank(0, 0, 0, 0)), flat(1, 2, 3, 4, 5), under(low, right(0, 1, 0), right(1, 0, 100)), then(high, way(0, 1))}
}

// Of drains that are valid, and have a truth, no call has an error, but that there are too many drains, or that nothing clashes.
func TestNoError(t *testing.T) {
	for i, d := range valids() {
		for _, f := range calls() {
			for a := range d.Banks {
				for b := range d.Banks {
					if a == b && f.asks == 2 {
						continue
					}
					want := api.OK
					if f.name == "Clash" {
						want = api.ErrNone
					} else if f.name == "Dig" && len(d.Drains) == api.DrainDrains {
						want = api.ErrFull
					}
					if y := f.do(d, a, b); y.e != want || want != api.OK && y != (result{e: want}) {
						t.Error(i, f.name, a, b, y)
					}
				}
			}
		}
	}
}

// ErrRange comes before ErrClash and ErrFull; of what a function is not asked it makes no difference.
func TestErrRange(t *testing.T) {
	refused := result{e: api.ErrRange}
	for i, d := range append(valids(), drainsN(), three(), fullClash()) {
		for _, f := range calls() {
			for good := range d.Banks {
				want := f.do(d, good, (good+1)%len(d.Banks))
				for _, n := range []int{-1, len(d.Banks), math.MinInt, math.MaxInt} {
					if y := f.do(d, n, good); f.asks > 0 && y != refused || f.asks == 0 && y != want {
						t.Error(i, f.name, n, good, y)
					}
					if y := f.do(d, good, n); f.asks == 2 && y != refused || f.asks < 2 && y != want {
						t.Error(i, f.name, good, n, y)
					}
					if y := f.do(d, n, n); f.asks > 0 && y != refused || f.asks == 0 && y != want {
						t.Error(i, f.name, n, n, y)
					}
				}
				if y := f.do(d, good, good); f.asks == 2 && y != refused || f.asks < 2 && y != want {
					t.Error(i, f.name, good, y)
				}
			}
		}
	}
}

// fullClash returns drains that are too many for one more, of which what was seen clashes.
func fullClash() api.Drain { return then(greatest(), way(0, 2), way(0, 1)) }

// ErrClash is that of all functions but Clash, and comes before ErrFull.
func TestErrClash(t *testing.T) {
	for i, d := range []api.Drain{drainsN(), three(), fullClash(), then(flat(5, 4), way(0, 1)), then(level(), way(0, 1), way(1, 0))} {
		for _, f := range calls() {
			for a := range d.Banks {
				for b := range d.Banks {
					if a == b && f.asks == 2 {
						continue
					}
					if y := f.do(d, a, b); f.name != "Clash" && y != (result{e: api.ErrClash}) || f.name == "Clash" && (y.e != api.OK || y.x == 0) {
						t.Error(i, f.name, a, b, y)
					}
				}
			}
		}
	}
}

// With ErrFull and ErrNone all else is zero.
func TestErrFullAndNone(t *testing.T) {
	if n, e := drain.Dig(greatest(), 3, 1); n != 0 || e != api.ErrFull {
		t.Error(n, e)
	}
	for _, d := range []api.Drain{drainsD(), drainsE(), greatest()} {
		if n, e := drain.Clash(d); n != 0 || e != api.ErrNone {
			t.Error(n, e)
		}
	}
}

// R4: no argument is changed. R3: a nil list is an empty one.
func TestArguments(t *testing.T) {
	empty := api.Drain{Banks: drainsD().Banks, Drains: []api.DrainWay{}, Rights: []api.DrainRight{}, Seen: []api.DrainWay{}}
	for _, f := range calls() {
		if y, z := f.do(empty, 0, 1), f.do(banks(empty.Banks...), 0, 1); y != z {
			t.Error(f.name, y, z)
		}
		for _, d := range append(valids(), drainsN(), three()) {
			before := fresh(d)
			f.do(d, 0, 1)
			if !reflect.DeepEqual(fresh(d), before) {
				t.Error(f.name, d, before)
			}
		}
	}
}

// R4: what lies behind a list is not changed, also if a drain is dug.
func TestBehindLists(t *testing.T) {
	whole := under(then(joined(drainsE(), way(3, 2), way(0, 3)), way(1, 3)), right(2, 3, 1))
	whole.Banks = append(fresh(whole).Banks, bank(1, 1, 1, 1))
	d := fresh(whole)
	for _, f := range calls() {
		c := d
		c.Banks, c.Drains, c.Rights, c.Seen = d.Banks[:4], d.Drains[:4], d.Rights[:2], d.Seen[:1]
		f.do(c, 0, 1)
		f.do(c, 1, 3)
	}
	if !reflect.DeepEqual(d, whole) {
		t.Error(d)
	}
}

// P1: of no drains a call panics.
func TestAnyArguments(t *testing.T) {
	numbers := []int{math.MinInt, -1, 0, 1, 2, 5, 20, math.MaxInt}
	for _, x := range numbers {
		for _, y := range numbers {
			d := joined(banks(bank(x, y, y, x), bank(y, y, x, x)), way(x, y), way(y, x))
			d = then(under(d, right(x, y, x), right(0, 1, y)), way(x, y))
			one := banks(bank(max(0, min(20, x)), max(0, min(20, x)), 0, 1))
			for _, f := range calls() {
				for _, n := range numbers {
					f.do(d, n, x)
					f.do(one, x, y)
					f.do(drainsD(), x, y)
					f.do(under(drainsN(), right(0, 1, n)), x, y)
					f.do(joined(drainsD(), way(n, x)), y, 0)
					f.do(then(drainsD(), way(n, x)), 0, y)
				}
			}
		}
	}
}
