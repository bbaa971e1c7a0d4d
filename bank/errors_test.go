package bank_test

import (
	"math"
	"reflect"
	"testing"

	"bogworks/api"
	"bogworks/bank"
)

// result is all that a call returns.
type result struct {
	a, b int
	s    api.Span
	e    api.Errno
}

// call is a function of the package, with what it looks at beside the bank, and the errors that it can have.
type call struct {
	name   string
	do     func(b api.Bank, n int) result
	from   int
	to     func(b api.Bank) int
	ranged bool
	clash  bool
}

func lastPerch(b api.Bank) int { return b.Perches - 1 }

func nobody(b api.Bank) int { return b.Holders }

func calls() []call {
	return []call{
		{"Whose", func(b api.Bank, n int) (r result) { r.a, r.e = bank.Whose(b, n); return r }, 0, lastPerch, true, true},
		{"Has", func(b api.Bank, n int) (r result) { r.a, r.b, r.e = bank.Has(b, n); return r }, 0, nobody, true, true},
		{"Wide", func(b api.Bank, n int) (r result) { r.s, r.e = bank.Wide(b, n); return r }, 0, nobody, true, true},
		{"Line", func(b api.Bank, n int) (r result) { r.a, r.e = bank.Line(b, n); return r }, 1, lastPerch, true, true},
		{"Count", func(b api.Bank, n int) (r result) { r.a, r.e = bank.Count(b); return r }, 0, nobody, false, false},
		{"Ask", func(b api.Bank, n int) (r result) { r.a, r.b, r.e = bank.Ask(b); return r }, 0, nobody, false, true},
		{"False", func(b api.Bank, n int) (r result) { r.a, r.b, r.e = bank.False(b); return r }, 0, nobody, false, false},
		{"Clash", func(b api.Bank, n int) (r result) { r.a, r.e = bank.Clash(b); return r }, 0, nobody, false, false},
	}
}

// spoilt returns banks that are not valid: N, a bank whose marks clash, with one thing wrong.
func spoilt() (list []api.Bank) {
	lease := func(l api.BankLease) func(b *api.Bank) { return func(b *api.Bank) { b.Leases[1] = l } }
	mark := func(perch, holder int) func(b *api.Bank) {
		return func(b *api.Bank) { b.Marks[1] = api.BankMark{Perch: perch, Holder: holder} }
	}
	line := func(from, to api.Span) func(b *api.Bank) { return lease(api.BankLease{Holder: 1, From: from, To: to}) }
	for _, spoil := range []func(b *api.Bank){
		// Without leases and marks nothing else is wrong.
		func(b *api.Bank) { *b = api.Bank{} }, func(b *api.Bank) { *b = api.Bank{Perches: 0, Holders: 1} },
		func(b *api.Bank) { *b = api.Bank{Perches: 1, Holders: 0} }, func(b *api.Bank) { *b = api.Bank{Perches: 11, Holders: 1} },
		func(b *api.Bank) { *b = api.Bank{Perches: 1, Holders: 5} },
		func(b *api.Bank) { b.Perches = 0 }, func(b *api.Bank) { b.Perches = -1 }, func(b *api.Bank) { b.Perches = 11 },
		func(b *api.Bank) { b.Perches = 5 }, func(b *api.Bank) { b.Perches = math.MaxInt }, func(b *api.Bank) { b.Perches = math.MinInt },
		func(b *api.Bank) { b.Holders = 0 }, func(b *api.Bank) { b.Holders = -1 }, func(b *api.Bank) { b.Holders = 5 },
		func(b *api.Bank) { b.Holders = 1 }, func(b *api.Bank) { b.Holders = math.MaxInt }, func(b *api.Bank) { b.Holders = math.MinInt },
		func(b *api.Bank) { b.Leases = append(b.Leases, b.Leases[0], b.Leases[0], b.Leases[0]) },
		func(b *api.Bank) { b.Leases = append(b.Leases, api.BankLease{}) },
		lease(api.BankLease{Holder: -1, From: span(0, 0), To: span(1, 1)}), lease(api.BankLease{Holder: 2, From: span(0, 0), To: span(1, 1)}),
		line(span(-1, 0), span(6, 6)), line(span(5, 6), span(6, 6)), line(span(6, 6), span(6, 6)), line(span(4, 3), span(6, 6)), line(span(2, 5), span(6, 6)),
		line(span(0, 0), span(0, 1)), line(span(0, 0), span(6, 7)), line(span(0, 0), span(5, 4)), line(span(0, 0), span(3, 6)),
		line(span(3, 3), span(3, 3)), line(span(3, 4), span(1, 3)), line(span(3, 4), span(1, 2)), line(span(5, 5), span(1, 1)),
		line(span(math.MinInt, math.MaxInt), span(6, 6)), line(span(0, 0), span(math.MinInt, math.MaxInt)), line(span(math.MaxInt, math.MinInt), span(6, 6)),
		func(b *api.Bank) { b.Marks = make([]api.BankMark, 7) },
		mark(6, 0), mark(-1, 0), mark(0, 3), mark(0, -1), mark(math.MaxInt, 0), mark(0, math.MinInt), mark(0, math.MaxInt),
	} {
		b := bankN()
		spoil(&b)
		list = append(list, b)
	}
	return list
}

// ErrArg comes first, also where a number is none and the marks clash; with it all else is zero (R1, R2).
func TestErrArg(t *testing.T) {
	for i, b := range spoilt() {
		for _, c := range calls() {
			for _, n := range []int{0, 1, -1, math.MinInt, math.MaxInt} {
				if r := c.do(b, n); r != (result{e: api.ErrArg}) {
					t.Error(i, c.name, n, r)
				}
			}
		}
	}
}

// ErrRange comes before ErrClash.
func TestErrRange(t *testing.T) {
	for i, b := range []api.Bank{bankB(), bankN(), bankE(), one(), greatest()} {
		for _, c := range calls() {
			for _, n := range []int{c.from - 1, c.to(b) + 1, math.MinInt, math.MaxInt} {
				if r := c.do(b, n); c.ranged && r != (result{e: api.ErrRange}) {
					t.Error(i, c.name, n, r)
				}
			}
			if c.from > c.to(b) {
				continue
			}
			for _, n := range []int{c.from, c.to(b)} {
				if r := c.do(b, n); r.e == api.ErrRange {
					t.Error(i, c.name, n, r)
				}
			}
		}
	}
}

// ErrClash is that of all functions but Count, False and Clash.
func TestErrClash(t *testing.T) {
	for i, b := range []api.Bank{bankN(), marked(bankE(), mark(1, 1)), marked(greatest(), mark(4, 4)), marked(bankB(), mark(3, 0), mark(3, 1))} {
		for _, c := range calls() {
			for n := c.from; n <= c.to(b); n++ {
				r := c.do(b, n)
				if c.clash && r != (result{e: api.ErrClash}) {
					t.Error(i, c.name, n, r)
				}
				if !c.clash && r.e != api.OK {
					t.Error(i, c.name, n, r)
				}
			}
		}
	}
}

// The greatest bank that is valid has no error.
func TestNoError(t *testing.T) {
	b := marked(greatest(), mark(0, 4), mark(1, 0), mark(2, 3), mark(7, 3), mark(8, 0), mark(9, 4))
	for _, c := range calls() {
		for n := c.from; n <= c.to(b); n++ {
			if r := c.do(b, n); r.e != api.OK && c.name != "Clash" {
				t.Error(c.name, n, r)
			}
		}
	}
}

// R3: a nil list is an empty one. R4: no argument is changed.
func TestArguments(t *testing.T) {
	empty := api.Bank{Perches: 2, Holders: 1, Leases: []api.BankLease{}, Marks: []api.BankMark{}}
	for _, c := range calls() {
		if r, s := c.do(empty, 1), c.do(api.Bank{Perches: 2, Holders: 1}, 1); r != s {
			t.Error(c.name, r, s)
		}
		b := marked(bankN(), mark(5, 0), mark(5, 1))
		c.do(b, 1)
		if !reflect.DeepEqual(b, marked(bankN(), mark(5, 0), mark(5, 1))) {
			t.Error(c.name, b)
		}
	}
}

// P1: of no bank a call panics.
func TestAnyArguments(t *testing.T) {
	odd := []int{math.MinInt, -1, 0, 1, 2, 10, math.MaxInt}
	for _, x := range odd {
		for _, y := range odd {
			b := api.Bank{Perches: x, Holders: y, Leases: []api.BankLease{lease(x, x, y, y, x), lease(0, 0, x, y, 10)}, Marks: []api.BankMark{mark(x, y)}}
			for _, c := range calls() {
				for _, n := range odd {
					c.do(b, n)
				}
			}
		}
	}
}
