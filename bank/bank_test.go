package bank_test

import (
	"testing"

	"bogworks/api"
	"bogworks/bank"
)

// one returns the bank of one perch, one holder, and those leases.
func one(l ...api.BankLease) api.Bank { return api.Bank{Perches: 1, Holders: 1, Leases: l} }

// P1.1
func TestWhose(t *testing.T) {
	hidden := api.Bank{Perches: 4, Holders: 2, Leases: []api.BankLease{lease(0, 0, 0, 4, 4), lease(1, 1, 1, 3, 3)}}
	for i, x := range []struct {
		b     api.Bank
		perch int
		want  int
	}{
		{bankB(), 0, 1}, {bankB(), 2, 1}, {bankB(), 3, 3}, {bankB(), 4, 2}, {bankB(), 5, 2},
		{bankM(), 3, 1}, {bankM(), 4, 2},
		{bankE(), 0, 2}, {bankE(), 1, 1}, {bankE(), 2, 3},
		{one(), 0, 2}, {one(lease(0, 0, 0, 1, 1)), 0, 1},
		// The newer lease goes before the older one, and the older one is there again behind it.
		{hidden, 0, 1}, {hidden, 1, 2}, {hidden, 2, 2}, {hidden, 3, 1},
		{greatest(), 0, 31}, {greatest(), 2, 8}, {greatest(), 7, 8}, {greatest(), 8, 31}, {greatest(), 9, 31},
	} {
		if n, e := bank.Whose(x.b, x.perch); n != x.want || e != api.OK {
			t.Error(i, n, e)
		}
	}
}

// P1.2
func TestHas(t *testing.T) {
	for i, x := range []struct {
		b               api.Bank
		holder          int
		surely, perhaps int
	}{
		{bankB(), 0, 7, 15}, {bankB(), 1, 48, 56}, {bankB(), 2, 0, 0},
		{bankM(), 0, 15, 15}, {bankM(), 1, 48, 48},
		{bankE(), 0, 2, 6}, {bankE(), 1, 1, 5},
		{one(), 0, 0, 0}, {one(), 1, 1, 1},
		{greatest(), 0, 0, 771}, {greatest(), 3, 252, 1023}, {greatest(), 4, 0, 771},
	} {
		if a, b, e := bank.Has(x.b, x.holder); a != x.surely || b != x.perhaps || e != api.OK {
			t.Error(i, a, b, e)
		}
	}
}

// P1.3
func TestWide(t *testing.T) {
	// Both leases are the holder's: where they lie over each other perches are not counted twice.
	both := api.Bank{Perches: 6, Holders: 1, Leases: []api.BankLease{lease(0, 0, 1, 2, 4), lease(0, 2, 3, 5, 5)}}
	for i, x := range []struct {
		b      api.Bank
		holder int
		want   api.Span
	}{
		{bankB(), 0, span(3, 4)}, {bankB(), 1, span(2, 3)}, {bankB(), 2, span(0, 0)},
		{bankM(), 0, span(4, 4)},
		{bankE(), 0, span(1, 2)}, {bankE(), 1, span(1, 2)},
		{one(), 0, span(0, 0)}, {one(), 1, span(1, 1)},
		{both, 0, span(3, 5)}, {both, 1, span(1, 3)},
		{greatest(), 0, span(0, 4)}, {greatest(), 3, span(6, 10)}, {greatest(), 4, span(0, 4)},
	} {
		if s, e := bank.Wide(x.b, x.holder); s != x.want || e != api.OK {
			t.Error(i, s, e)
		}
	}
}

// P1.4
func TestLine(t *testing.T) {
	// Between two leases of one holder there is no line, wherever they meet.
	same := api.Bank{Perches: 4, Holders: 2, Leases: []api.BankLease{lease(0, 0, 0, 2, 2), lease(0, 2, 2, 4, 4)}}
	for i, x := range []struct {
		b     api.Bank
		perch int
		want  int
	}{
		{bankB(), 1, api.BankNever}, {bankB(), 3, api.BankPerhaps}, {bankB(), 4, api.BankPerhaps}, {bankB(), 5, api.BankNever},
		{bankM(), 3, api.BankNever}, {bankM(), 4, api.BankAlways},
		{bankE(), 1, api.BankAlways}, {bankE(), 2, api.BankPerhaps},
		{same, 2, api.BankNever},
		{greatest(), 1, api.BankPerhaps}, {greatest(), 5, api.BankNever}, {greatest(), 9, api.BankPerhaps},
	} {
		if n, e := bank.Line(x.b, x.perch); n != x.want || e != api.OK {
			t.Error(i, n, e)
		}
	}
}

// P1.5
func TestCount(t *testing.T) {
	hidden := bankE()
	hidden.Leases = append(hidden.Leases, lease(0, 0, 0, 3, 3))
	for i, x := range []struct {
		b    api.Bank
		want int
	}{
		{bankB(), 4}, {bankM(), 2}, {bankN(), 0}, {bankE(), 2}, {one(), 1},
		// A line that nobody can see still makes two truths.
		{hidden, 2},
		// Of 9 pairs of lines those are none of which the second line is not the greater one.
		{api.Bank{Perches: 4, Holders: 1, Leases: []api.BankLease{lease(0, 0, 2, 1, 3)}}, 6},
		{api.Bank{Perches: 4, Holders: 1, Leases: []api.BankLease{lease(0, 1, 3, 1, 3)}}, 3},
		{greatest(), 9 * 9 * 9 * 9},
		{marked(greatest(), mark(0, 4)), 6 * 6 * 6 * 6},
		{marked(greatest(), mark(0, 4), mark(9, 4)), 4 * 4 * 4 * 4},
		{marked(greatest(), mark(0, 4), mark(1, 0), mark(2, 3), mark(7, 3), mark(8, 0), mark(9, 4)), 1},
	} {
		if n, e := bank.Count(x.b); n != x.want || e != api.OK {
			t.Error(i, n, e)
		}
	}
}

// P1.6
func TestAsk(t *testing.T) {
	for i, x := range []struct {
		b           api.Bank
		perch, left int
	}{
		{bankB(), 3, 2}, {bankM(), 0, 2}, {bankE(), 2, 1}, {one(), 0, 1},
		// The first perch is the last holder's in 2187 truths, the holder's before it in 1458, ..., nobody's in 1296.
		{greatest(), 0, 2187},
	} {
		if p, n, e := bank.Ask(x.b); p != x.perch || n != x.left || e != api.OK {
			t.Error(i, p, n, e)
		}
	}
}

// P1.7 and P1.8
func TestFalseAndClash(t *testing.T) {
	six := marked(greatest(), mark(4, 0), mark(4, 3), mark(5, 4), mark(6, 3), mark(0, 1), mark(0, 2))
	for i, x := range []struct {
		b         api.Bank
		many, set int
		clash     int
		e         api.Errno
	}{
		{bankB(), 0, 0, 0, api.ErrNone}, {bankM(), 0, 0, 0, api.ErrNone}, {bankE(), 0, 0, 0, api.ErrNone}, {one(), 0, 0, 0, api.ErrNone},
		{bankN(), 1, 2, 2, api.OK},
		// The same mark twice is two marks.
		{marked(bankB(), mark(2, 1), mark(2, 1)), 2, 3, 1, api.OK},
		// Either of two marks of one perch can be false: the least number is meant.
		{marked(bankB(), mark(3, 0), mark(3, 1)), 1, 1, 3, api.OK},
		// One false mark stands against two right ones, and clashes with each of them.
		{marked(bankB(), mark(3, 1), mark(3, 0), mark(3, 1)), 1, 2, 3, api.OK},
		// The fewest marks come before the least number: one alone, though it is the last.
		{marked(bankB(), mark(3, 0), mark(3, 1), mark(0, 1)), 2, 5, 4, api.OK},
		{six, 3, 21, 1, api.OK},
	} {
		if n, s, e := bank.False(x.b); n != x.many || s != x.set || e != api.OK {
			t.Error(i, n, s, e)
		}
		if s, e := bank.Clash(x.b); s != x.clash || e != x.e {
			t.Error(i, s, e)
		}
	}
}

// P1.1 to P1.8, against all truths one by one.
func TestAgainstEachTruth(t *testing.T) {
	for _, b := range someBanks(1, 300, 3, api.BankMarks) {
		checkAll(t, b)
	}
	for _, b := range someBanks(2, 25, api.BankLeases, api.BankMarks) {
		checkAll(t, b)
	}
	checkAll(t, greatest())
	checkAll(t, marked(greatest(), mark(1, 0), mark(1, 3), mark(8, 4), mark(8, 2), mark(0, 2), mark(9, 1)))
	checkAll(t, bankN())
}

// P1.1 to P1.8, of all small banks with one lease and up to one mark.
func TestAllSmallBanks(t *testing.T) {
	for perches := 1; perches <= 3; perches++ {
		for _, from := range spans(0, perches-1) {
			for _, to := range spans(1, perches) {
				b := api.Bank{Perches: perches, Holders: 2, Leases: []api.BankLease{{Holder: 1, From: from, To: to}}}
				if from.Lo >= to.Hi {
					continue
				}
				checkAll(t, b)
				for p := range perches {
					for h := range 3 {
						checkAll(t, marked(b, mark(p, h)))
					}
				}
			}
		}
	}
}

// spans returns all spans within two numbers.
func spans(from, to int) (list []api.Span) {
	for lo := from; lo <= to; lo++ {
		for hi := lo; hi <= to; hi++ {
			list = append(list, span(lo, hi))
		}
	}
	return list
}
