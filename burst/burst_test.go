package burst_test

import (
	"testing"

	"bogworks/api"
	"bogworks/burst"
)

// bogB, bogD and bogN are those of the document's examples.
func bogB() api.Burst {
	return bog(span(4, 6), 1, []api.Span{span(5, 8), span(6, 6)}, bank(20, 22, 2, 3), bank(30, 30, 5, 8))
}

func bogD() api.Burst { return then(bogB(), swell(1, 2)) }

func bogN() api.Burst { return then(bogD(), swell(1, 0)) }

// greatest returns the greatest bog that is valid, without signs, from which drains take so much.
func greatest(drain int) api.Burst {
	b := bog(span(-40, 40), drain, nil)
	for range api.BurstDays {
		b.Rain = append(b.Rain, span(0, 20))
	}
	for range api.BurstBanks {
		b.Banks = append(b.Banks, bank(0, 60, 0, 20))
	}
	return b
}

// exact returns a bog of which all is known: how much water there is at first, how much drains take away, and what one day's rain
// brings; and, of each bank, how much it bears.
func exact(water, drain, rain int, bears ...int) api.Burst {
	b := bog(span(water, water), drain, []api.Span{span(rain, rain)})
	for _, n := range bears {
		b.Banks = append(b.Banks, bank(n, n, 0, 0))
	}
	return b
}

// dry returns a bog with some water on which it does not rain for so many days, with its banks.
func dry(water api.Span, drain, days int, banks ...api.BurstBank) api.Burst {
	return bog(water, drain, make([]api.Span, days), banks...)
}

// three has three signs, of which any two can be right: if the bank swells on both days there is too little water for it to be brown.
func three() api.Burst {
	return then(bog(span(-1, -1), 0, []api.Span{span(0, 10), span(0, 10)}, bank(0, 30, 0, 0)), brown(2), swell(0, 0), swell(0, 1))
}

// tops has a bank that bears more in those truths in which there is more water on the day 1, and one that bears the same in all.
func tops() api.Burst {
	return then(bog(span(10, 10), 3, []api.Span{span(0, 3)}, bank(5, 15, 0, 0), bank(8, 8, 0, 0)), crack(0, 1))
}

// P8.1
func TestWater(t *testing.T) {
	wide := dry(span(-40, 40), 0, 1, bank(30, 30, 0, 0))
	for i, x := range []struct {
		b    api.Burst
		day  int
		want api.Span
	}{
		{bogB(), 0, span(4, 6)}, {bogB(), 1, span(8, 13)}, {bogB(), 2, span(13, 18)}, {bogD(), 0, span(5, 6)}, {bogD(), 2, span(17, 18)}, {bogD(), 1, span(12, 13)},
		// It grows by the rain and gets less by the drain, also below 0.
		{exact(7, 0, 3, 1), 1, span(10, 10)}, {exact(7, 5, 3, 1), 1, span(5, 5)}, {exact(0, 20, 0, 1), 1, span(-20, -20)}, {exact(-40, 0, 20, 1), 1, span(-20, -20)}, {exact(7, 3, 3, 1), 1, span(7, 7)},
		{dry(span(-40, -40), 20, 5, bank(0, 0, 0, 0)), 5, span(-140, -140)}, {dry(span(1, 2), 3, 4, bank(0, 0, 0, 0)), 3, span(-8, -7)}, {greatest(0), 5, span(-40, 140)}, {greatest(20), 5, span(-140, 40)}, {greatest(7), 2, span(-54, 66)}, {greatest(7), 0, span(-40, 40)},
		// What a bank bears says nothing of the water unless there is a sign.
		{exact(40, 0, 20, 0), 1, span(60, 60)}, {wide, 0, span(-40, 40)},
		// With a crack the margin is from 0 to 10, with a swelling from 0 to 5; both are the same on all banks.
		{then(wide, crack(0, 0)), 0, span(20, 30)}, {then(wide, swell(0, 0)), 0, span(25, 30)}, {then(wide, crack(0, 1)), 0, span(20, 30)}, {then(wide, crack(0, 0), swell(0, 0)), 0, span(25, 30)},
		// Brown water is at least 15, whatever the bank of the sign.
		{then(wide, brown(0)), 0, span(15, 40)}, {then(wide, brown(1)), 0, span(15, 40)}, {then(wide, api.BurstSign{Kind: api.BurstBrown, Bank: -7, Day: 1}), 1, span(15, 40)}, {then(bogB(), brown(2)), 2, span(15, 18)}, {then(bogB(), brown(2)), 1, span(10, 13)}, {then(bogB(), brown(2)), 0, span(4, 6)},
		// A sign tells of earlier and of later days.
		{then(bog(span(0, 20), 0, []api.Span{span(4, 6), span(1, 2)}, bank(20, 20, 0, 0)), swell(0, 1)), 0, span(9, 16)}, {then(bog(span(0, 20), 0, []api.Span{span(4, 6), span(1, 2)}, bank(20, 20, 0, 0)), swell(0, 1)), 1, span(15, 20)}, {then(bog(span(0, 20), 0, []api.Span{span(4, 6), span(1, 2)}, bank(20, 20, 0, 0)), swell(0, 1)), 2, span(16, 22)},
		// What a bank bears is the same on all days: two signs tell of the rain between them, though not of what it bears.
		{then(bog(span(0, 0), 0, []api.Span{span(0, 20)}, bank(0, 60, 0, 0)), swell(0, 0), swell(0, 1)), 1, span(0, 5)}, {then(bog(span(0, 0), 0, []api.Span{span(0, 20)}, bank(0, 60, 0, 0)), swell(0, 1)), 1, span(0, 20)}, {then(bog(span(0, 0), 0, []api.Span{span(0, 20)}, bank(0, 60, 0, 0), bank(0, 60, 0, 0)), swell(0, 0), swell(1, 1)), 1, span(0, 20)},
		{then(greatest(0), crack(0, 5)), 5, span(-30, 60)}, {then(greatest(0), crack(0, 5)), 4, span(-40, 60)}, {then(greatest(20), swell(3, 5)), 5, span(-25, 40)},
	} {
		if w, e := burst.Water(x.b, x.day); w != x.want || e != api.OK {
			t.Error(i, w, e)
		}
	}
}

// P8.2
func TestMargin(t *testing.T) {
	for i, x := range []struct {
		b         api.Burst
		bank, day int
		want      api.Span
	}{
		{bogB(), 0, 2, span(-1, 7)}, {bogB(), 1, 2, span(4, 12)}, {bogD(), 0, 2, span(-1, 3)}, {bogD(), 1, 2, span(4, 5)}, {bogB(), 0, 0, span(11, 16)}, {bogB(), 1, 1, span(9, 17)}, {bogD(), 1, 0, span(16, 17)}, {bogD(), 0, 1, span(4, 8)},
		// What is cut makes it less.
		{exact(7, 0, 3, 12), 0, 0, span(5, 5)}, {exact(7, 0, 3, 12), 0, 1, span(2, 2)}, {dry(span(7, 7), 0, 1, bank(12, 14, 2, 5)), 0, 0, span(0, 5)}, {dry(span(0, 0), 0, 1, bank(0, 0, 20, 20)), 0, 0, span(-20, -20)}, {exact(7, 0, 3, 12, 9), 1, 1, span(-1, -1)},
		// Less water, below 0, makes it more.
		{dry(span(-40, -40), 20, 5, bank(60, 60, 0, 0)), 0, 5, span(200, 200)}, {greatest(0), 3, 5, span(-160, 100)}, {greatest(20), 3, 5, span(-60, 200)}, {greatest(20), 0, 0, span(-60, 100)},
		// A sign tells of its bank, also on other days, and, by the water, of other banks.
		{then(exact(0, 0, 3, 12, 9), crack(1, 0)), 1, 0, span(9, 9)}, {then(greatest(0), crack(0, 5)), 0, 5, span(0, 10)}, {then(greatest(0), crack(0, 5)), 0, 0, span(0, 100)}, {then(greatest(0), crack(0, 5)), 1, 5, span(-80, 90)}, {then(greatest(0), crack(0, 5)), 1, 0, span(-60, 100)},
		{tops(), 0, 1, span(0, 8)}, {tops(), 0, 0, span(-3, 5)}, {tops(), 1, 0, span(-2, -2)}, {tops(), 1, 1, span(-2, 1)},
		{then(bogB(), brown(2)), 0, 2, span(-1, 5)}, {then(bogB(), brown(2)), 1, 0, span(16, 21)},
		// The margin is known, though neither the water nor what the bank bears is.
		{then(dry(span(0, 40), 0, 1, bank(0, 60, 0, 0)), swell(0, 1)), 0, 0, span(0, 5)}, {then(dry(span(0, 40), 2, 2, bank(0, 60, 0, 20)), swell(0, 0), crack(0, 1)), 0, 2, span(4, 9)}, {then(dry(span(0, 40), 7, 2, bank(0, 60, 0, 20)), swell(0, 0), crack(0, 1)), 0, 2, span(14, 17)},
	} {
		if w, e := burst.Margin(x.b, x.bank, x.day); w != x.want || e != api.OK {
			t.Error(i, w, e)
		}
	}
}

// P8.3
func TestMoves(t *testing.T) {
	for i, x := range []struct {
		b                    api.Burst
		day, surely, perhaps int
	}{
		{bogB(), 2, 0, 1}, {bogB(), 1, 0, 0}, {bogD(), 2, 0, 1}, {bogB(), 0, 0, 0},
		// Only a margin below 0 is too little.
		{exact(9, 0, 3, 9), 0, 0, 0}, {exact(9, 0, 3, 8), 0, 1, 1}, {exact(9, 0, 3, 10, 9, 8, 7), 0, 0b1100, 0b1100}, {exact(9, 0, 3, 12, 11, 14, 7), 1, 0b1010, 0b1010},
		{dry(span(9, 10), 0, 1, bank(9, 9, 0, 0), bank(10, 10, 0, 0), bank(8, 9, 0, 0), bank(8, 8, 0, 0)), 0, 0b1000, 0b1101}, {dry(span(9, 9), 0, 1, bank(9, 9, 0, 1), bank(11, 12, 2, 3), bank(9, 11, 2, 2), bank(9, 10, 2, 4)), 1, 0b1000, 0b1111},
		// It is a matter of each day alone.
		{exact(9, 5, 0, 8), 0, 1, 1}, {exact(9, 5, 0, 8), 1, 0, 0}, {exact(9, 0, 5, 12), 0, 0, 0}, {exact(9, 0, 5, 12), 1, 1, 1},
		// A bank of which there is a sign does not move on its day; but perhaps on others, and perhaps other banks.
		{then(bogB(), swell(0, 2)), 2, 0, 0}, {tops(), 1, 0, 2}, {tops(), 0, 2, 3}, {then(dry(span(0, 40), 0, 1, bank(20, 20, 0, 0), bank(14, 14, 0, 0)), swell(0, 0)), 0, 2, 2}, {then(dry(span(0, 40), 0, 1, bank(20, 20, 0, 0), bank(15, 15, 0, 0)), swell(0, 0)), 0, 0, 2}, {then(dry(span(0, 40), 0, 1, bank(14, 14, 0, 0), bank(20, 20, 0, 0)), brown(0)), 0, 1, 3},
		{greatest(0), 0, 0, 0b1111}, {greatest(20), 5, 0, 0b1111},
	} {
		if s, p, e := burst.Moves(x.b, x.day); s != x.surely || p != x.perhaps || e != api.OK {
			t.Errorf("%d: %b %b %d", i, s, p, e)
		}
	}
}

// P8.4, P9
func TestSafe(t *testing.T) {
	for i, x := range []struct {
		b         api.Burst
		day, want int
	}{
		{bogB(), 1, api.BurstAlways}, {bogB(), 2, api.BurstPerhaps}, {bogB(), 0, api.BurstAlways}, {bogD(), 2, api.BurstPerhaps}, {bogD(), 1, api.BurstAlways},
		{exact(9, 0, 3, 9), 0, api.BurstAlways}, {exact(9, 0, 3, 8), 0, api.BurstNever}, {exact(9, 0, 3, 11), 0, api.BurstAlways}, {exact(9, 0, 3, 11), 1, api.BurstNever}, {exact(9, 0, 3, 12), 1, api.BurstAlways},
		// One bank is enough, and one day before it.
		{exact(9, 0, 3, 60, 12, 11), 1, api.BurstNever}, {exact(9, 0, 3, 11, 12, 60), 1, api.BurstNever}, {exact(9, 5, 0, 8), 1, api.BurstNever}, {exact(9, 5, 0, 60, 8), 1, api.BurstNever}, {dry(span(9, 10), 5, 5, bank(9, 9, 0, 0)), 5, api.BurstPerhaps},
		// A day after it does not matter.
		{exact(9, 0, 20, 9), 0, api.BurstAlways}, {bog(span(0, 0), 0, []api.Span{span(0, 0), span(20, 20)}, bank(19, 19, 0, 0)), 1, api.BurstAlways}, {bog(span(0, 0), 0, []api.Span{span(0, 0), span(20, 20)}, bank(19, 19, 0, 0)), 2, api.BurstNever},
		{dry(span(9, 10), 0, 1, bank(9, 9, 0, 0), bank(10, 10, 0, 0)), 0, api.BurstPerhaps}, {dry(span(9, 10), 0, 1, bank(9, 9, 0, 0), bank(8, 8, 0, 0)), 0, api.BurstNever}, {dry(span(9, 9), 0, 1, bank(9, 11, 0, 2)), 1, api.BurstPerhaps}, {dry(span(9, 9), 0, 1, bank(9, 11, 3, 5)), 1, api.BurstNever},
		// Signs can make it sure.
		{then(bogB(), swell(0, 2)), 2, api.BurstAlways}, {then(bogB(), brown(2)), 2, api.BurstPerhaps}, {tops(), 0, api.BurstNever}, {then(dry(span(0, 40), 0, 1, bank(20, 20, 0, 0), bank(14, 14, 0, 0)), swell(0, 0)), 0, api.BurstNever}, {then(dry(span(0, 40), 0, 1, bank(20, 20, 0, 0), bank(15, 15, 0, 0)), swell(0, 0)), 0, api.BurstPerhaps}, {then(dry(span(0, 40), 0, 1, bank(20, 20, 0, 0), bank(20, 20, 0, 0)), swell(0, 0)), 0, api.BurstAlways},
		// By no span alone: a bank that swells bears at most 5 more, and it rains more.
		{then(bog(span(0, 40), 0, []api.Span{span(6, 9)}, bank(0, 60, 0, 0)), swell(0, 0)), 1, api.BurstNever}, {then(bog(span(0, 40), 0, []api.Span{span(5, 9)}, bank(0, 60, 0, 0)), swell(0, 0)), 1, api.BurstPerhaps}, {then(bog(span(0, 40), 0, []api.Span{span(6, 9)}, bank(0, 60, 0, 0)), crack(0, 0)), 1, api.BurstPerhaps}, {then(bog(span(0, 40), 1, []api.Span{span(6, 9)}, bank(0, 60, 0, 0)), swell(0, 0)), 1, api.BurstPerhaps},
		{greatest(0), 5, api.BurstPerhaps}, {greatest(20), 0, api.BurstPerhaps}, {then(greatest(0), brown(0), brown(5)), 5, api.BurstPerhaps},
	} {
		if n, e := burst.Safe(x.b, x.day); n != x.want || e != api.OK {
			t.Error(i, n, e)
		}
	}
}

// P8.5, P9
func TestUntil(t *testing.T) {
	up := []api.Span{span(3, 3), span(0, 2), span(1, 1), span(0, 0), span(5, 20)}
	for i, x := range []struct {
		b    api.Burst
		want int
		e    api.Errno
	}{
		{bogB(), 1, api.OK}, {bogD(), 1, api.OK}, {then(bogB(), swell(0, 2)), 2, api.OK}, {then(bogB(), brown(2)), 1, api.OK},
		{bog(span(0, 0), 0, up, bank(2, 2, 0, 0)), 0, api.OK}, {bog(span(0, 0), 0, up, bank(3, 3, 0, 0)), 1, api.OK}, {bog(span(0, 0), 0, up, bank(5, 5, 0, 0)), 2, api.OK}, {bog(span(0, 0), 0, up, bank(6, 6, 0, 0)), 4, api.OK}, {bog(span(0, 0), 0, up, bank(25, 25, 0, 0)), 4, api.OK}, {bog(span(0, 0), 0, up, bank(26, 26, 0, 0)), 5, api.OK}, {bog(span(0, 0), 0, up, bank(0, 0, 0, 0)), 0, api.OK},
		{bog(span(0, 0), 0, up, bank(26, 26, 0, 0), bank(5, 26, 0, 0), bank(26, 26, 0, 0)), 2, api.OK}, {bog(span(0, 0), 0, up, bank(26, 26, 0, 20)), 4, api.OK},
		// Perhaps is not surely; not even up to the day 0.
		{exact(9, 0, 3, 8), 0, api.ErrNone}, {dry(span(9, 10), 0, 1, bank(9, 9, 0, 0)), 0, api.ErrNone}, {dry(span(9, 9), 0, 1, bank(9, 10, 0, 1)), 0, api.ErrNone}, {greatest(20), 0, api.ErrNone},
		// A bank that moved did so, though there is less water later.
		{exact(9, 5, 0, 8), 0, api.ErrNone}, {bog(span(0, 0), 5, []api.Span{span(20, 20), span(0, 0)}, bank(12, 12, 0, 0)), 0, api.OK}, {bog(span(0, 0), 5, []api.Span{span(20, 20), span(0, 0)}, bank(15, 15, 0, 0)), 2, api.OK},
		{exact(9, 0, 0, 9), 1, api.OK}, {dry(span(9, 9), 0, 5, bank(9, 9, 0, 0)), 5, api.OK},
	} {
		if n, e := burst.Until(x.b); n != x.want || e != x.e {
			t.Error(i, n, e)
		}
	}
}

// P8.6, P9
func TestFirst(t *testing.T) {
	for i, x := range []struct {
		b         api.Burst
		day, want int
		e         api.Errno
	}{
		{bogB(), 2, 0, api.OK}, {bogB(), 1, 0, api.ErrNone}, {bogB(), 0, 0, api.ErrNone}, {bogD(), 2, 0, api.OK}, {then(bogB(), swell(0, 2)), 2, 0, api.ErrNone},
		{exact(9, 0, 3, 8), 0, 0, api.OK}, {exact(9, 0, 3, 9), 0, 0, api.ErrNone}, {exact(9, 0, 3, 11), 0, 0, api.ErrNone}, {exact(9, 0, 3, 11), 1, 0, api.OK},
		// The one with the least margin, the first one of several, also if others surely move.
		{exact(9, 0, 3, 8, 7, 6), 0, 2, api.OK}, {exact(9, 0, 3, 7, 6, 8), 0, 1, api.OK}, {exact(9, 0, 3, 8, 6, 7, 6), 0, 1, api.OK}, {exact(9, 0, 3, 6, 6), 0, 0, api.OK}, {exact(9, 0, 3, 60, 60, 60, 8), 0, 3, api.OK}, {exact(9, 0, 3, 60, 11, 11), 1, 1, api.OK},
		{dry(span(9, 9), 0, 1, bank(8, 8, 0, 0), bank(7, 60, 0, 0)), 0, 1, api.OK}, {dry(span(9, 9), 0, 1, bank(8, 8, 0, 0), bank(20, 60, 1, 13)), 1, 1, api.OK}, {dry(span(9, 9), 0, 1, bank(7, 60, 0, 0), bank(7, 7, 0, 0)), 1, 0, api.OK},
		// On this day and all before it: the least margin can be that of an earlier one.
		{exact(9, 5, 0, 8, 7), 1, 1, api.OK}, {exact(9, 5, 0, 8, 8), 1, 0, api.OK}, {tops(), 0, 0, api.OK}, {tops(), 1, 0, api.OK},
		{greatest(0), 5, 0, api.OK}, {then(greatest(0), crack(0, 0)), 5, 1, api.OK}, {then(greatest(0), crack(0, 0)), 0, 1, api.OK},
	} {
		if n, e := burst.First(x.b, x.day); n != x.want || e != x.e {
			t.Error(i, n, e)
		}
	}
}

// P8.7
func TestSpare(t *testing.T) {
	for i, x := range []struct {
		b          api.Burst
		bank, want int
		e          api.Errno
	}{
		{bogB(), 1, 4, api.OK}, {bogB(), 0, 0, api.ErrNone}, {bogD(), 1, 4, api.OK}, {bogD(), 0, 0, api.ErrNone}, {then(bogB(), swell(0, 2)), 0, 0, api.OK},
		// Of all days, also of the one after the last.
		{exact(9, 0, 3, 12), 0, 0, api.OK}, {exact(9, 0, 3, 20), 0, 8, api.OK}, {exact(9, 0, 3, 11), 0, 0, api.ErrNone}, {exact(9, 3, 0, 20), 0, 11, api.OK}, {exact(9, 3, 0, 8), 0, 0, api.ErrNone},
		// Of this bank: it does not matter whether others move.
		{exact(9, 0, 3, 20, 0), 0, 8, api.OK}, {exact(9, 0, 3, 0, 20), 1, 8, api.OK}, {exact(9, 0, 3, 0, 20), 0, 0, api.ErrNone},
		{dry(span(9, 11), 0, 1, bank(20, 60, 2, 5)), 0, 4, api.OK}, {dry(span(9, 11), 0, 1, bank(20, 60, 2, 10)), 0, 0, api.ErrNone},
		// It can be more than a bank may have had cut.
		{dry(span(-40, -40), 20, 5, bank(60, 60, 0, 0)), 0, 100, api.OK}, {dry(span(-40, 40), 0, 5, bank(60, 60, 20, 20)), 0, 0, api.OK}, {dry(span(-40, -40), 0, 5, bank(60, 60, 20, 20)), 0, 80, api.OK},
		// Signs stay those that were seen: they say more of the margin, though it was another one then than after the cut.
		{then(dry(span(20, 32), 0, 1, bank(30, 40, 0, 0)), crack(0, 0)), 0, 0, api.OK}, {then(dry(span(20, 32), 2, 1, bank(30, 40, 0, 0)), crack(0, 1)), 0, 0, api.ErrNone}, {then(dry(span(20, 32), 2, 1, bank(34, 40, 0, 0)), crack(0, 1)), 0, 2, api.OK}, {then(dry(span(0, 32), 0, 1, bank(20, 20, 0, 0), bank(30, 40, 0, 0)), swell(0, 0)), 1, 10, api.OK},
	} {
		if n, e := burst.Spare(x.b, x.bank); n != x.want || e != x.e {
			t.Error(i, n, e)
		}
	}
}

// P8.8, P4
func TestClash(t *testing.T) {
	low := dry(span(14, 14), 0, 1, bank(20, 30, 0, 0), bank(14, 14, 0, 0))
	rim := dry(span(15, 15), 0, 1, bank(15, 15, 0, 0), bank(25, 25, 0, 0), bank(20, 20, 0, 0))
	for i, x := range []struct {
		b    api.Burst
		want int
		e    api.Errno
	}{
		{bogN(), 2, api.OK}, {bogD(), 0, api.ErrNone}, {bogB(), 0, api.ErrNone}, {three(), 7, api.OK}, {then(three(), brown(0)), 8, api.OK}, {tops(), 0, api.ErrNone},
		// One sign can be enough, each kind up to its limit.
		{then(low, brown(0)), 1, api.OK}, {then(low, crack(0, 0), swell(1, 1), brown(1)), 4, api.OK}, {then(low, swell(0, 0)), 1, api.OK}, {then(low, crack(0, 0)), 0, api.ErrNone}, {then(rim, brown(0), brown(1), crack(0, 0), swell(0, 1), crack(1, 1)), 0, api.ErrNone}, {then(rim, swell(1, 0)), 1, api.OK}, {then(rim, swell(2, 0), swell(1, 0)), 2, api.OK},
		{then(exact(15, 0, 1, 15), swell(0, 0), brown(1), swell(0, 1), crack(0, 1)), 4, api.OK}, {then(exact(15, 0, 0, 26), crack(0, 0)), 1, api.OK}, {then(exact(15, 1, 0, 25), crack(0, 0), crack(0, 1)), 2, api.OK}, {then(exact(15, 1, 0, 15), brown(0), brown(1)), 2, api.OK},
		// Of several sets of so many signs the least number; fewer come before a lesser number.
		{then(bogN(), swell(1, 2)), 2, api.OK}, {then(bogN(), brown(0)), 2, api.OK}, {then(bogB(), swell(1, 0), swell(1, 2), swell(1, 0)), 1, api.OK}, {then(bogB(), swell(1, 2), crack(0, 0)), 2, api.OK}, {then(bogD(), brown(2), brown(1), brown(1)), 4, api.OK},
		{then(dry(span(0, 40), 0, 1, bank(20, 20, 0, 0), bank(26, 26, 0, 0), bank(32, 32, 0, 0)), swell(0, 0), swell(1, 0), swell(2, 1)), 3, api.OK}, {then(dry(span(0, 40), 0, 1, bank(20, 20, 0, 0), bank(26, 26, 0, 0), bank(32, 32, 0, 0)), brown(0), swell(2, 0), crack(1, 0), swell(0, 0)), 0b110, api.OK}, {then(dry(span(0, 40), 0, 1, bank(20, 20, 0, 0), bank(26, 26, 0, 0), bank(32, 32, 0, 0)), swell(0, 0), crack(1, 0), swell(2, 1), crack(2, 0)), 0b101, api.OK},
		{then(greatest(0), crack(0, 0), crack(1, 1), swell(2, 2), swell(3, 3), brown(4)), 0, api.ErrNone}, {then(greatest(20), brown(5), crack(0, 0), crack(0, 5), brown(0), crack(1, 1)), 0, api.ErrNone},
	} {
		if n, e := burst.Clash(x.b); n != x.want || e != x.e {
			t.Errorf("%d: %b %d", i, n, e)
		}
	}
}

// P8.1 to P8.8, P2, P4, P9: what is returned is what all truths leave.
func TestOneByOne(t *testing.T) {
	for _, b := range append(fewTruths(1, 1500), bogB(), bogD(), bogN(), tops(), three()) {
		checkAll(t, b, oneByOne(b))
	}
}

// P8.1 to P8.8, P2, P4, P9: so it is of bogs of any size, of which the water has not too many courses.
func TestByWater(t *testing.T) {
	for _, b := range append(fewCourses(2, 1000), bogB(), bogD(), bogN(), tops(), three()) {
		checkAll(t, b, byWater(b))
	}
}

// The two ways to find what truths leave agree.
func TestBothWays(t *testing.T) {
	clashes, safe := 0, map[int]int{}
	for _, b := range fewTruths(3, 500) {
		k := oneByOne(b)
		if k != byWater(b) {
			t.Errorf("%+v: %+v, %+v", b, k, byWater(b))
		}
		if k.truth {
			safe[k.safe[len(b.Rain)].whether()]++
		} else {
			clashes++
		}
	}
	if clashes < 30 || safe[api.BurstNever] < 30 || safe[api.BurstPerhaps] < 30 || safe[api.BurstAlways] < 30 {
		t.Error(clashes, safe)
	}
}
