package sod_test

import (
	"math/rand"
	"testing"

	"bogworks/api"
	"bogworks/sod"
)

// overnight has a sod that takes the strokes of two days, and one below it.
func overnight() api.Sod {
	return api.Sod{Spits: []api.SodSpit{spit(1, 6, 6), spit(1, 2, 2)}, Days: []api.Span{span(5, 5), span(3, 3), span(0, 0)}}
}

// gaps has 30, 15 or 10 sods cut by the end of its day, and no number in between.
func gaps() api.Sod {
	return api.Sod{Spits: []api.SodSpit{spit(30, 1, 3)}, Days: []api.Span{span(30, 30)}}
}

// idle has a day without strokes before one with enough of them.
func idle() api.Sod {
	return api.Sod{Spits: []api.SodSpit{spit(1, 1, 1)}, Days: []api.Span{span(0, 0), span(1, 100)}}
}

// P2.1
func TestCut(t *testing.T) {
	for i, x := range []struct {
		s    api.Sod
		day  int
		want api.Span
	}{
		{bankS(), 0, span(3, 4)}, {bankS(), 1, span(5, 6)}, {bankS(), 2, span(6, 7)},
		{bankX(), 0, span(3, 4)}, {bankX(), 1, span(6, 6)}, {bankX(), 2, span(7, 7)},
		{one(span(1, 1), span(0, 0)), 0, span(0, 0)}, {one(span(6, 6), span(5, 6)), 0, span(0, 1)}, {one(span(1, 1), span(100, 100)), 0, span(1, 1)},
		// Strokes that are left in the evening are used the next day, also those in the midst of a sod.
		{overnight(), 0, span(0, 0)}, {overnight(), 1, span(2, 2)}, {overnight(), 2, span(2, 2)},
		// A later count tells of earlier days.
		{counted(idle(), count(1, 1, 1)), 0, span(0, 0)}, {counted(idle(), count(1, 1, 1)), 1, span(1, 1)},
		{counted(bankS(), count(2, 6, 6)), 0, span(3, 4)}, {counted(bankS(), count(2, 6, 6)), 1, span(5, 5)},
		{gaps(), 0, span(10, 30)}, {counted(gaps(), count(0, 11, 29)), 0, span(15, 15)},
		{greatest(), 0, span(0, 25)}, {greatest(), 5, span(0, 90)},
		{counted(greatest(), count(5, 90, 200)), 0, span(0, 25)}, {counted(greatest(), count(5, 90, 200)), 1, span(0, 50)},
		{counted(greatest(), count(2, 0, 0), count(5, 75, 75)), 2, span(0, 0)}, {counted(greatest(), count(2, 0, 0), count(5, 75, 75)), 4, span(50, 50)},
	} {
		if w, e := sod.Cut(x.s, x.day); w != x.want || e != api.OK {
			t.Error(i, w, e)
		}
	}
}

// P2.2
func TestCost(t *testing.T) {
	for i, x := range []struct {
		s    api.Sod
		spit int
		want api.Span
	}{
		{bankS(), 0, span(2, 2)}, {bankS(), 1, span(3, 4)}, {bankX(), 1, span(3, 4)},
		{counted(bankS(), count(2, 6, 6)), 1, span(3, 4)}, {counted(bankS(), count(0, 4, 4), count(1, 5, 5), count(2, 6, 6)), 1, span(4, 4)},
		{gaps(), 0, span(1, 3)}, {counted(gaps(), count(0, 11, 29)), 0, span(2, 2)}, {counted(gaps(), count(0, 0, 29)), 0, span(2, 3)},
		// All sods of a spit take the same: if the first one is cut, and the second one is not, there are not enough strokes for it.
		{api.Sod{Spits: []api.SodSpit{spit(2, 1, 3)}, Days: []api.Span{span(4, 4)}, Logs: []api.SodLog{count(0, 1, 1)}}, 0, span(3, 3)},
		{greatest(), 0, span(4, 6)}, {greatest(), 2, span(4, 6)}, {counted(greatest(), count(0, 17, 19)), 0, span(4, 5)},
	} {
		if w, e := sod.Cost(x.s, x.spit); w != x.want || e != api.OK {
			t.Error(i, w, e)
		}
	}
}

// P2.3
func TestFinished(t *testing.T) {
	for i, x := range []struct {
		s               api.Sod
		day             int
		surely, perhaps int
	}{
		{bankS(), 0, 0, 1}, {bankS(), 1, 1, 1}, {bankS(), 2, 1, 3}, {bankX(), 0, 0, 1}, {bankX(), 2, 3, 3},
		{one(span(1, 1), span(0, 0)), 0, 0, 0}, {one(span(1, 1), span(1, 1)), 0, 1, 1}, {one(span(1, 2), span(1, 1)), 0, 0, 1},
		{overnight(), 0, 0, 0}, {overnight(), 1, 3, 3},
		{greatest(), 0, 0, 0}, {greatest(), 1, 0, 1}, {greatest(), 2, 0, 3}, {greatest(), 3, 0, 7}, {greatest(), 5, 0, 7},
		{counted(greatest(), count(4, 59, 60)), 4, 1, 3}, {counted(greatest(), count(4, 60, 61)), 5, 3, 3}, {counted(greatest(), count(4, 65, 66)), 5, 3, 7},
	} {
		if a, b, e := sod.Finished(x.s, x.day); a != x.surely || b != x.perhaps || e != api.OK {
			t.Error(i, a, b, e)
		}
	}
}

// P2.4
func TestDone(t *testing.T) {
	for i, x := range []struct {
		s    api.Sod
		want api.Span
	}{
		{bankS(), span(2, 3)}, {bankX(), span(2, 2)}, {counted(bankS(), count(2, 6, 6)), span(3, 3)},
		{one(span(1, 1), span(0, 0)), span(1, 1)}, {one(span(1, 1), span(1, 1)), span(0, 0)}, {one(span(1, 2), span(1, 1)), span(0, 1)},
		// The first of several days by which all are finished is meant.
		{overnight(), span(1, 1)}, {idle(), span(1, 1)},
		{greatest(), span(3, 6)}, {counted(greatest(), count(5, 90, 90)), span(3, 5)}, {counted(greatest(), count(5, 0, 89)), span(6, 6)},
		{counted(greatest(), count(3, 90, 200)), span(3, 3)},
	} {
		if w, e := sod.Done(x.s); w != x.want || e != api.OK {
			t.Error(i, w, e)
		}
	}
}

// P2.5
func TestNeed(t *testing.T) {
	for i, x := range []struct {
		s    api.Sod
		day  int
		want api.Span
	}{
		{bankS(), 1, span(1, 8)}, {bankX(), 1, span(1, 4)}, {bankX(), 2, span(0, 0)},
		{one(span(1, 1), span(0, 0)), 0, span(1, 1)}, {one(span(6, 6), span(5, 7)), 0, span(0, 1)}, {one(span(4, 6), span(1, 2)), 0, span(2, 5)},
		{overnight(), 0, span(3, 3)}, {overnight(), 1, span(0, 0)}, {gaps(), 0, span(0, 60)},
		{greatest(), 0, span(260, 540)}, {greatest(), 3, span(0, 540)}, {counted(greatest(), count(5, 90, 90)), 0, span(260, 500)},
	} {
		if w, e := sod.Need(x.s, x.day); w != x.want || e != api.OK {
			t.Error(i, w, e)
		}
	}
}

// P2.6
func TestFits(t *testing.T) {
	for i, x := range []struct {
		s    api.Sod
		day  int
		sods api.Span
		want int
	}{
		{bankS(), 0, span(4, 4), api.SodPerhaps}, {bankS(), 0, span(3, 4), api.SodAlways}, {bankS(), 0, span(5, 9), api.SodNever},
		{bankS(), 0, span(0, 2), api.SodNever}, {bankS(), 0, span(0, 200), api.SodAlways}, {bankS(), 0, span(200, 200), api.SodNever},
		{bankS(), 0, span(0, 3), api.SodPerhaps}, {bankS(), 0, span(4, 200), api.SodPerhaps}, {bankX(), 1, span(6, 6), api.SodAlways},
		{one(span(1, 1), span(0, 0)), 0, span(0, 0), api.SodAlways}, {one(span(1, 1), span(0, 0)), 0, span(1, 200), api.SodNever},
		// Where a number between two others is never that of the sods, a span may have neither of those.
		{gaps(), 0, span(11, 14), api.SodNever}, {gaps(), 0, span(16, 29), api.SodNever}, {gaps(), 0, span(14, 29), api.SodPerhaps},
		{gaps(), 0, span(10, 30), api.SodAlways}, {gaps(), 0, span(11, 30), api.SodPerhaps}, {gaps(), 0, span(10, 29), api.SodPerhaps},
		{counted(gaps(), count(0, 11, 29)), 0, span(15, 15), api.SodAlways}, {counted(gaps(), count(0, 0, 29)), 0, span(15, 30), api.SodPerhaps},
		{greatest(), 5, span(0, 90), api.SodAlways}, {greatest(), 5, span(90, 200), api.SodPerhaps}, {greatest(), 5, span(91, 200), api.SodNever},
	} {
		if n, e := sod.Fits(x.s, x.day, x.sods); n != x.want || e != api.OK {
			t.Error(i, n, e)
		}
	}
}

// P2.7
func TestClash(t *testing.T) {
	for i, x := range []struct {
		s    api.Sod
		want int
		e    api.Errno
	}{
		{bankZ(), 3, api.OK}, {bankX(), 0, api.ErrNone}, {bankS(), 0, api.ErrNone}, {greatest(), 0, api.ErrNone},
		// Of several sets the least number is meant.
		{counted(bankZ(), count(1, 6, 6), count(2, 6, 6)), 3, api.OK}, {counted(bankS(), count(2, 6, 6), count(0, 0, 200), count(1, 6, 6), count(1, 6, 6)), 5, api.OK},
		// The fewest counts come before the least number: one alone, though it is the last.
		{counted(bankZ(), count(0, 0, 2)), 4, api.OK}, {counted(bankZ(), count(0, 5, 5), count(0, 0, 2)), 4, api.OK},
		// No more sods are cut than there are; as many can be.
		{counted(bankS(), count(2, 8, 200)), 1, api.OK}, {counted(bankS(), count(2, 7, 200)), 0, api.ErrNone}, {counted(bankS(), count(2, 0, 5)), 1, api.OK},
		{counted(one(span(1, 1), span(0, 0)), count(0, 0, 0)), 0, api.ErrNone}, {counted(one(span(1, 1), span(0, 0)), count(0, 1, 1)), 1, api.OK},
		// Two counts of one day leave what both of them do.
		{counted(bankS(), count(1, 5, 5), count(1, 6, 6)), 3, api.OK}, {counted(bankS(), count(1, 5, 6), count(1, 6, 7)), 0, api.ErrNone},
		// The numbers that are never those of the sods leave no truth.
		{counted(gaps(), count(0, 0, 14), count(0, 11, 29)), 3, api.OK}, {counted(gaps(), count(0, 16, 29)), 1, api.OK},
		// Any two of three counts leave a truth, all of them do not.
		{three(), 7, api.OK},
	} {
		if n, e := sod.Clash(x.s); n != x.want || e != x.e {
			t.Error(i, n, e)
		}
	}
}

// three has three counts of which any two can be right.
func three() api.Sod {
	s := api.Sod{Spits: []api.SodSpit{spit(4, 1, 2), spit(30, 1, 2)}, Days: []api.Span{span(2, 2), span(30, 30)}}
	// The first count leaves the costs 2 of the first spit, the second one all but 2 and 2, the third one 2 of the second spit.
	return counted(s, count(0, 0, 1), count(1, 17, 200), count(1, 0, 27))
}

// P2.1 to P2.7, against all truths one by one.
func TestAgainstEachTruth(t *testing.T) {
	var fits []api.Span
	for lo := range 14 {
		for hi := lo; hi < 14; hi++ {
			fits = append(fits, span(lo, hi))
		}
	}
	fits = append(fits, span(0, api.SodCount), span(1, api.SodCount), span(api.SodCount, api.SodCount))
	for _, s := range smallBanks(1, 250) {
		checkAll(t, s, fits)
	}
	for _, s := range []api.Sod{bankS(), bankX(), bankZ(), three(), overnight(), idle(), gaps()} {
		checkAll(t, s, fits)
	}
}

// P2.1 to P2.7, of banks of any size, against each number of strokes that there can have been.
func TestAgainstEachStroke(t *testing.T) {
	r := rand.New(rand.NewSource(2))
	for _, s := range append(greatBanks(3, 25), greatest(), counted(greatest(), count(0, 20, 22), count(2, 40, 45), count(4, 60, 90), count(5, 70, 89))) {
		fits := []api.Span{span(0, 90), span(1, api.SodCount)}
		for range 10 {
			fits = append(fits, someSpan(r, 0, 95, 40))
		}
		checkGreat(t, s, fits)
	}
}

// P2.1 to P2.7, of all banks of one spit with up to two sods, one day, and one count.
func TestAllTinyBanks(t *testing.T) {
	fits := spans(0, 3)
	for sods := 1; sods <= 2; sods++ {
		for _, cost := range spans(1, 3) {
			for _, day := range spans(0, 7) {
				s := api.Sod{Spits: []api.SodSpit{{Sods: sods, Cost: cost}}, Days: []api.Span{day}}
				checkAll(t, s, fits)
				for _, x := range fits {
					checkAll(t, counted(s, count(0, x.Lo, x.Hi)), fits)
				}
			}
		}
	}
}

// spans returns all spans within two numbers.
func spans(from, to int) (list []api.Span) {
	for lo := from; lo <= to; lo++ {
		for hi := lo; hi <= to; hi++ {
			list = append(list, span(lo, hi))
		}
	}
	return list
}
