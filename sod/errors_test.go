package sod_test

import (
	"math"
	"reflect"
	"testing"

	"bogworks/api"
	"bogworks/sod"
)

// result is all that a call returns.
type result struct {
	a, b int
	w    api.Span
	e    api.Errno
}

// call is a function of the package, how many numbers it can be asked of, and the errors that it can have.
type call struct {
	name   string
	do     func(s api.Sod, n int) result
	many   func(s api.Sod) int
	ranged bool
	clash  bool
}

func days(s api.Sod) int { return len(s.Days) }

func spits(s api.Sod) int { return len(s.Spits) }

func calls() []call {
	return []call{
		{"Cut", func(s api.Sod, n int) (r result) { r.w, r.e = sod.Cut(s, n); return r }, days, true, true},
		{"Cost", func(s api.Sod, n int) (r result) { r.w, r.e = sod.Cost(s, n); return r }, spits, true, true},
		{"Finished", func(s api.Sod, n int) (r result) { r.a, r.b, r.e = sod.Finished(s, n); return r }, days, true, true},
		{"Done", func(s api.Sod, n int) (r result) { r.w, r.e = sod.Done(s); return r }, days, false, true},
		{"Need", func(s api.Sod, n int) (r result) { r.w, r.e = sod.Need(s, n); return r }, days, true, true},
		{"Fits", func(s api.Sod, n int) (r result) { r.a, r.e = sod.Fits(s, n, span(0, 6)); return r }, days, true, true},
		{"Clash", func(s api.Sod, n int) (r result) { r.a, r.e = sod.Clash(s); return r }, days, false, false},
	}
}

// none returns spans that are none within two numbers.
func none(from, to int) []api.Span {
	return []api.Span{
		span(from-1, from), span(from-1, from-1), span(to, to+1), span(to+1, to+1), span(from+1, from), span(to, from),
		span(math.MinInt, math.MaxInt), span(math.MaxInt, math.MinInt), span(math.MinInt, from), span(to, math.MaxInt), span(math.MaxInt, math.MaxInt),
	}
}

// spoilt returns banks that are not valid: Z, a bank whose counts clash, with one thing wrong.
func spoilt() (list []api.Sod) {
	add := func(spoil func(s *api.Sod)) {
		s := api.Sod{
			Spits: append([]api.SodSpit(nil), bankZ().Spits...),
			Days:  append([]api.Span(nil), bankZ().Days...),
			Logs:  append([]api.SodLog(nil), bankZ().Logs...),
		}
		spoil(&s)
		list = append(list, s)
	}
	add(func(s *api.Sod) { s.Spits = nil })
	add(func(s *api.Sod) { s.Spits = append(s.Spits, spit(1, 1, 1), spit(1, 1, 1)) })
	add(func(s *api.Sod) { s.Days = nil })
	add(func(s *api.Sod) { *s = api.Sod{Spits: s.Spits} })
	add(func(s *api.Sod) { s.Days = append(s.Days, s.Days[0], s.Days[0], s.Days[0], s.Days[0]) })
	add(func(s *api.Sod) { s.Days = s.Days[:2] })
	add(func(s *api.Sod) { s.Logs = append(s.Logs, s.Logs[0], s.Logs[0], s.Logs[0]) })
	for _, n := range []int{0, -1, 31, math.MinInt, math.MaxInt} {
		add(func(s *api.Sod) { s.Spits[1].Sods = n })
	}
	for _, w := range append(none(1, 6), span(1, 4), span(3, 6), span(1, 6)) {
		add(func(s *api.Sod) { s.Spits[1].Cost = w })
	}
	for _, w := range none(0, 100) {
		add(func(s *api.Sod) { s.Days[2] = w })
	}
	for _, n := range []int{-1, 3, math.MinInt, math.MaxInt} {
		add(func(s *api.Sod) { s.Logs[1].Day = n })
	}
	for _, w := range none(0, 200) {
		add(func(s *api.Sod) { s.Logs[1].Sods = w })
	}
	return append(list, api.Sod{})
}

// ErrArg comes first, also where a number is none and the counts clash; with it all else is zero (R1, R2).
func TestErrArg(t *testing.T) {
	for i, s := range spoilt() {
		for _, c := range calls() {
			for _, n := range []int{0, 1, -1, math.MinInt, math.MaxInt} {
				if r := c.do(s, n); r != (result{e: api.ErrArg}) {
					t.Error(i, c.name, n, r)
				}
			}
		}
		if n, e := sod.Fits(s, 0, span(1, 0)); n != 0 || e != api.ErrArg {
			t.Error(i, n, e)
		}
	}
}

// ErrRange comes before ErrClash.
func TestErrRange(t *testing.T) {
	for i, s := range []api.Sod{bankS(), bankZ(), greatest(), one(span(1, 1), span(0, 0)), overnight()} {
		for _, c := range calls() {
			for _, n := range []int{-1, c.many(s), math.MinInt, math.MaxInt} {
				if r := c.do(s, n); c.ranged && r != (result{e: api.ErrRange}) {
					t.Error(i, c.name, n, r)
				}
			}
			for n := range c.many(s) {
				if r := c.do(s, n); r.e == api.ErrRange {
					t.Error(i, c.name, n, r)
				}
			}
		}
		for _, w := range none(0, api.SodCount) {
			if n, e := sod.Fits(s, 0, w); n != 0 || e != api.ErrRange {
				t.Error(i, w, n, e)
			}
		}
		for _, w := range []api.Span{span(0, 0), span(0, api.SodCount), span(api.SodCount, api.SodCount)} {
			if _, e := sod.Fits(s, 0, w); e == api.ErrRange {
				t.Error(i, w, e)
			}
		}
	}
}

// ErrClash is that of all functions but Clash.
func TestErrClash(t *testing.T) {
	for i, s := range []api.Sod{bankZ(), three(), counted(greatest(), count(0, 26, 200)), counted(gaps(), count(0, 16, 29)), counted(bankS(), count(0, 200, 200))} {
		for _, c := range calls() {
			for n := range c.many(s) {
				r := c.do(s, n)
				if c.clash && r != (result{e: api.ErrClash}) {
					t.Error(i, c.name, n, r)
				}
				if !c.clash && r.e != api.OK {
					t.Error(i, c.name, n, r)
				}
			}
		}
	}
}

// The greatest and the smallest banks that are valid have no error, but that there is no clash.
func TestNoError(t *testing.T) {
	great := counted(greatest(), count(0, 0, 200), count(5, 0, 200), count(5, 0, 0), count(3, 0, 50))
	for _, s := range []api.Sod{great, one(span(1, 1), span(0, 0)), one(span(6, 6), span(100, 100)), one(span(1, 3), span(0, 100)), one(span(4, 6), span(0, 0))} {
		for _, c := range calls() {
			for n := range c.many(s) {
				r := c.do(s, n)
				if c.clash && r.e != api.OK || !c.clash && r != (result{e: api.ErrNone}) {
					t.Error(c.name, n, r)
				}
			}
		}
	}
}

// P2.8, R4: no argument is changed. R3: a nil list is an empty one.
func TestArguments(t *testing.T) {
	many := func() api.Sod { return counted(bankX(), count(0, 5, 5), count(2, 6, 6), count(2, 7, 7)) }
	empty := bankS()
	empty.Logs = []api.SodLog{}
	for _, c := range calls() {
		if r, s := c.do(empty, 1), c.do(bankS(), 1); r != s {
			t.Error(c.name, r, s)
		}
		for _, fresh := range []func() api.Sod{many, bankZ, bankX, three} {
			s := fresh()
			c.do(s, 1)
			if !reflect.DeepEqual(s, fresh()) {
				t.Error(c.name, s)
			}
		}
	}
}

// P2.8, R4: what lies behind a list is not changed.
func TestBehindLists(t *testing.T) {
	logs := counted(bankZ(), count(0, 3, 3), count(0, 9, 9)).Logs
	s := bankS()
	s.Logs = logs[:1:4]
	for _, c := range calls() {
		c.do(s, 1)
	}
	if !reflect.DeepEqual(logs, counted(bankZ(), count(0, 3, 3), count(0, 9, 9)).Logs) {
		t.Error(logs)
	}
}

// P1: of no bank a call panics.
func TestAnyArguments(t *testing.T) {
	odd := []int{math.MinInt, -1, 0, 1, 2, 200, math.MaxInt}
	for _, x := range odd {
		for _, y := range odd {
			s := api.Sod{Spits: []api.SodSpit{spit(x, y, x), spit(1, x, y)}, Days: []api.Span{span(x, y), span(0, y)}, Logs: []api.SodLog{count(x, y, x), count(0, x, y)}}
			some := counted(bankS(), count(1, x, y))
			for _, c := range calls() {
				for _, n := range odd {
					c.do(s, n)
					c.do(some, n)
					sod.Fits(bankS(), n, span(x, y))
				}
			}
		}
	}
}
