package clamp_test

import (
	"testing"

	"bogworks/api"
	"bogworks/clamp"
)

// clampsC, clampsK and clampsN are those of the document's examples.
func clampsC() api.Clamp {
	first := cube(3, 2, 1)
	first.High = span(1, 2)
	return then(clamps(4, 5, first, cube(2, 2, 2)), sale(0, 10, 12), count(1, 30, 33))
}

func clampsK() api.Clamp { return then(clampsC(), count(0, 13, 36)) }

func clampsN() api.Clamp { return then(clampsK(), count(0, 12, 12)) }

// greatest returns the greatest clamps that are valid, to which nothing happened.
func greatest() api.Clamp {
	near := span(9, 10)
	p := api.ClampPile{Long: near, Wide: near, High: near}
	return clamps(3, 5, p, p, p, p)
}

// apart has clamps of which the one has least by a pack by which the other one does not: 18 by a pack of 3, otherwise 24; and ten packs.
func apart() api.Clamp {
	first := cube(6, 1, 1)
	first.High = span(1, 2)
	return then(clamps(2, 4, first, cube(10, 1, 1)), count(0, 17, 30))
}

// three has, behind a count that says nothing, three counts of which any two can be right: each excludes one pack of three.
func three() api.Clamp {
	last := cube(4, 1, 1)
	last.High = span(1, 2)
	return then(clamps(2, 4, cube(10, 1, 1), cube(10, 1, 1), last), count(2, 8, 32), count(0, 20, 30), count(1, 30, 40), count(2, 16, 16))
}

// short returns a clamp of which all is known, that has so many sods.
func short(n int, events ...api.ClampEvent) api.Clamp {
	return then(clamps(1, 1, cube(n, 1, 1)), events...)
}

// P9.1
func TestBuilt(t *testing.T) {
	wide := clamps(1, 3, cube(10, 1, 1), flat(4, 5))
	for i, x := range []struct {
		c    api.Clamp
		of   int
		want api.Span
	}{
		{clampsC(), 0, span(24, 48)}, {clampsC(), 1, span(32, 32)}, {clampsK(), 0, span(24, 48)}, {clampsK(), 1, span(32, 32)},
		// The four numbers are multiplied.
		{clamps(5, 5, cube(2, 3, 7)), 0, span(210, 210)}, {clamps(1, 1, cube(1, 1, 1)), 0, span(1, 1)}, {clamps(5, 5, cube(10, 10, 10)), 0, span(5000, 5000)}, {greatest(), 0, span(2187, 5000)}, {greatest(), 3, span(2187, 5000)},
		{clamps(2, 4, cube(2, 3, 7)), 0, span(84, 168)}, {clamps(2, 2, flat(2, 3)), 0, span(4, 6)},
		{clamps(2, 2, api.ClampPile{Long: span(3, 3), Wide: span(4, 5), High: span(6, 6)}), 0, span(144, 180)}, {clamps(2, 2, api.ClampPile{Long: span(3, 3), Wide: span(4, 4), High: span(6, 7)}), 0, span(144, 168)},
		// What is counted of one clamp tells of the pack, and so of others.
		{wide, 0, span(10, 30)}, {wide, 1, span(4, 15)}, {then(wide, count(0, 15, 25)), 1, span(8, 10)}, {then(wide, count(0, 11, 40)), 1, span(8, 15)}, {then(wide, count(1, 5, 9)), 0, span(10, 20)}, {then(wide, count(1, 12, 14)), 0, span(30, 30)}, {then(wide, count(1, 12, 14)), 1, span(12, 12)},
		// So does what is sold: there was so much.
		{then(wide, sale(0, 15, 15)), 0, span(20, 30)}, {then(wide, sale(0, 18, 21)), 1, span(8, 15)}, {then(wide, sale(0, 21, 24)), 1, span(12, 15)}, {then(wide, sale(0, 10, 10), sale(0, 10, 10), sale(0, 1, 3)), 1, span(12, 15)}, {then(wide, sale(1, 11, 13)), 1, span(12, 15)},
		// A count tells of what was there before the sales in front of it.
		{then(wide, sale(0, 5, 7), count(0, 12, 14)), 0, span(20, 20)}, {then(wide, count(0, 12, 24), sale(0, 5, 7)), 0, span(20, 20)}, {then(wide, sale(0, 5, 7), count(0, 5, 15)), 0, span(10, 20)}, {then(wide, sale(0, 0, 3), count(0, 7, 7), sale(0, 4, 7)), 0, span(10, 10)},
		{then(apart(), count(1, 25, 45)), 0, span(18, 24)}, {apart(), 0, span(18, 24)}, {apart(), 1, span(20, 40)},
	} {
		if w, e := clamp.Built(x.c, x.of); w != x.want || e != api.OK {
			t.Error(i, w, e)
		}
	}
}

// P9.1
func TestHas(t *testing.T) {
	wide := clamps(1, 3, cube(10, 1, 1), flat(4, 5))
	for i, x := range []struct {
		c    api.Clamp
		of   int
		want api.Span
	}{
		{clampsC(), 0, span(12, 38)}, {clampsC(), 1, span(32, 32)}, {clampsK(), 0, span(13, 36)}, {clampsK(), 1, span(32, 32)},
		{short(9), 0, span(9, 9)}, {short(9, sale(0, 4, 4)), 0, span(5, 5)}, {short(9, sale(0, 9, 9)), 0, span(0, 0)}, {short(9, sale(0, 0, 0)), 0, span(9, 9)}, {short(9, sale(0, 0, 3)), 0, span(6, 9)}, {short(9, sale(0, 4, 4), sale(0, 2, 3)), 0, span(2, 3)},
		// No sale takes off more than there is.
		{short(9, sale(0, 8, 11)), 0, span(0, 1)}, {short(9, sale(0, 9, 12)), 0, span(0, 0)}, {short(9, sale(0, 4, 6), sale(0, 4, 6)), 0, span(0, 1)}, {short(9, sale(0, 8, 9), sale(0, 0, 3)), 0, span(0, 1)}, {short(9, sale(0, 6, 9), sale(0, 2, 4), sale(0, 1, 1)), 0, span(0, 0)},
		// A count takes off nothing; it tells of what is there then.
		{short(9, count(0, 9, 9)), 0, span(9, 9)}, {short(9, count(0, 0, 5000)), 0, span(9, 9)}, {short(9, sale(0, 2, 5), count(0, 5, 6)), 0, span(5, 6)}, {short(9, count(0, 9, 9), sale(0, 2, 5)), 0, span(4, 7)}, {short(9, sale(0, 2, 5), count(0, 0, 4)), 0, span(4, 4)}, {short(9, sale(0, 2, 5), count(0, 7, 5000)), 0, span(7, 7)}, {short(9, sale(0, 2, 5), count(0, 5, 6), sale(0, 0, 1)), 0, span(4, 6)}, {short(9, sale(0, 2, 5), count(0, 5, 7), count(0, 3, 6)), 0, span(5, 6)},
		// Of a sale before it, and of the pack, a later count tells, too.
		{short(9, sale(0, 0, 3), sale(0, 0, 3), count(0, 3, 3)), 0, span(3, 3)}, {then(wide, sale(0, 5, 7), count(1, 12, 12)), 0, span(23, 25)}, {then(wide, sale(0, 5, 7), count(0, 3, 14)), 0, span(3, 14)}, {then(wide, sale(0, 5, 7), count(0, 3, 14)), 1, span(4, 10)},
		{then(wide, sale(0, 10, 12), count(1, 4, 10)), 0, span(0, 10)}, {then(wide, sale(0, 11, 12)), 0, span(8, 19)}, {then(wide, sale(0, 5, 5), sale(1, 9, 10)), 1, span(0, 6)}, {then(wide, sale(0, 28, 31)), 0, span(0, 2)}, {then(wide, sale(0, 28, 31)), 1, span(12, 15)},
		{greatest(), 2, span(2187, 5000)}, {then(greatest(), sale(2, 4997, 5000)), 2, span(0, 3)}, {then(greatest(), sale(2, 4997, 5000)), 0, span(3645, 5000)}, {then(greatest(), sale(1, 2000, 2003)), 1, span(184, 3000)},
	} {
		if w, e := clamp.Has(x.c, x.of); w != x.want || e != api.OK {
			t.Error(i, w, e)
		}
	}
}

// P9.1, P10
func TestSold(t *testing.T) {
	wide := clamps(1, 3, cube(10, 1, 1), flat(4, 5))
	for i, x := range []struct {
		c    api.Clamp
		of   int
		want api.Span
	}{
		{clampsC(), 0, span(10, 12)}, {clampsC(), 1, span(0, 0)}, {clampsK(), 0, span(10, 12)}, {clampsK(), 1, span(0, 0)},
		{short(9), 0, span(0, 0)}, {short(9, sale(0, 4, 4)), 0, span(4, 4)}, {short(9, sale(0, 4, 6)), 0, span(4, 6)}, {short(9, sale(0, 0, 0)), 0, span(0, 0)}, {short(9, sale(0, 1, 2), sale(0, 3, 5)), 0, span(4, 7)}, {short(9, sale(0, 1, 1), sale(0, 1, 1), sale(0, 1, 1), sale(0, 1, 1), sale(0, 1, 1), sale(0, 1, 1)), 0, span(6, 6)},
		// Never more than there was; though each of them can be as much.
		{short(9, sale(0, 8, 11)), 0, span(8, 9)}, {short(9, sale(0, 4, 6), sale(0, 4, 6)), 0, span(8, 9)}, {short(9, sale(0, 9, 12), sale(0, 0, 3)), 0, span(9, 9)}, {then(wide, sale(0, 9, 12), count(1, 4, 5)), 0, span(9, 10)}, {then(wide, sale(0, 9, 12)), 0, span(9, 12)},
		// Counts tell of it: the one after the sale, and both if one is before it.
		{short(9, sale(0, 2, 5), count(0, 5, 6)), 0, span(3, 4)}, {short(9, count(0, 9, 9), sale(0, 2, 5)), 0, span(2, 5)}, {then(wide, count(0, 10, 20), sale(0, 5, 7), count(0, 4, 4)), 0, span(6, 6)}, {then(wide, sale(0, 5, 7), count(0, 13, 14)), 0, span(6, 7)}, {then(wide, sale(0, 5, 7), count(0, 4, 13)), 0, span(5, 7)}, {short(9, sale(0, 2, 5), sale(0, 2, 3), count(0, 4, 5)), 0, span(4, 5)},
		// Of each clamp its own sales.
		{then(wide, sale(0, 1, 2), sale(1, 3, 3), sale(0, 2, 2)), 0, span(3, 4)}, {then(wide, sale(0, 1, 2), sale(1, 3, 3), sale(0, 2, 2)), 1, span(3, 3)}, {then(greatest(), sale(3, 2184, 2187), sale(3, 2810, 2813)), 3, span(4994, 5000)},
	} {
		if w, e := clamp.Sold(x.c, x.of); w != x.want || e != api.OK {
			t.Error(i, w, e)
		}
	}
}

// P9.2
func TestAll(t *testing.T) {
	wide := clamps(1, 3, cube(10, 1, 1), flat(4, 5))
	for i, x := range []struct {
		c    api.Clamp
		want api.Span
	}{
		{clampsC(), span(44, 70)}, {clampsK(), span(45, 68)}, {short(9), span(9, 9)}, {short(9, sale(0, 9, 12)), span(0, 0)}, {wide, span(14, 45)}, {greatest(), span(8748, 20000)},
		{clamps(1, 1, cube(1, 1, 1), cube(2, 1, 1), cube(4, 1, 1), cube(8, 1, 1)), span(15, 15)}, {clamps(1, 1, cube(1, 1, 1), cube(2, 1, 1), cube(4, 1, 1)), span(7, 7)}, {then(wide, sale(0, 4, 6), sale(1, 3, 4)), span(4, 38)},
		// They have the same pack: both cannot have least.
		{apart(), span(44, 64)}, {then(apart(), sale(0, 15, 18)), span(26, 49)}, {then(apart(), sale(1, 20, 23), sale(0, 15, 18)), span(6, 29)}, {then(wide, count(0, 20, 20)), span(28, 30)}, {then(wide, count(1, 5, 9)), span(15, 28)},
	} {
		if w, e := clamp.All(x.c); w != x.want || e != api.OK {
			t.Error(i, w, e)
		}
	}
}

// P9.3, P10
func TestEnough(t *testing.T) {
	for i, x := range []struct {
		c           api.Clamp
		of, n, want int
	}{
		{clampsC(), 0, 12, 2}, {clampsC(), 0, 20, 1}, {clampsC(), 0, 39, 0}, {clampsC(), 0, 13, 1}, {clampsC(), 0, 38, 1}, {clampsC(), 0, 0, 2}, {clampsC(), 1, 32, 2}, {clampsC(), 1, 33, 0}, {clampsK(), 0, 13, 2}, {clampsK(), 0, 36, 1}, {clampsK(), 0, 37, 0},
		{short(9), 0, 9, 2}, {short(9), 0, 10, 0}, {short(9), 0, 8, 2}, {short(9), 0, 20000, 0}, {short(9, sale(0, 9, 9)), 0, 0, 2}, {short(9, sale(0, 9, 9)), 0, 1, 0}, {short(9, sale(0, 8, 9)), 0, 1, 1}, {short(9, sale(0, 8, 9)), 0, 2, 0},
		{greatest(), 3, 5000, 1}, {greatest(), 3, 5001, 0}, {greatest(), 3, 2187, 2}, {greatest(), 3, 2188, 1}, {then(greatest(), count(3, 5000, 5000)), 3, 5000, 2}, {then(greatest(), count(3, 5000, 5000)), 0, 3645, 2},
	} {
		if n, e := clamp.Enough(x.c, x.of, x.n); n != x.want || e != api.OK {
			t.Error(i, n, e)
		}
	}
}

// P9.4
func TestEmpty(t *testing.T) {
	two := clamps(1, 2, cube(5, 1, 1), cube(7, 1, 1))
	for i, x := range []struct {
		c               api.Clamp
		surely, perhaps int
	}{
		{clampsC(), 0, 0}, {clampsK(), 0, 0}, {greatest(), 0, 0}, {short(9), 0, 0}, {short(9, sale(0, 9, 9)), 1, 1}, {short(9, sale(0, 8, 9)), 0, 1}, {short(9, sale(0, 9, 12)), 1, 1}, {short(9, sale(0, 8, 8)), 0, 0}, {short(9, sale(0, 8, 9), count(0, 0, 0)), 1, 1}, {short(9, sale(0, 8, 9), count(0, 1, 4)), 0, 0}, {short(9, sale(0, 8, 9), count(0, 0, 1)), 0, 1},
		{then(two, sale(0, 5, 5)), 0, 1}, {then(two, sale(1, 7, 7)), 0, 2}, {then(two, sale(1, 14, 15)), 2, 2}, {then(two, sale(1, 14, 15), sale(0, 7, 10)), 2, 3}, {then(two, sale(1, 14, 15), sale(0, 5, 5)), 2, 2}, {then(two, sale(0, 8, 11), sale(1, 12, 15)), 0, 3}, {then(two, sale(0, 9, 10), sale(1, 14, 14), count(0, 0, 0)), 3, 3},
		{then(clamps(1, 1, cube(3, 1, 1), cube(4, 1, 1), cube(5, 1, 1), cube(6, 1, 1)), sale(3, 6, 6), sale(1, 3, 4), sale(2, 5, 8)), 0b1100, 0b1110},
	} {
		if s, p, e := clamp.Empty(x.c); s != x.surely || p != x.perhaps || e != api.OK {
			t.Errorf("%d: %b %b %d", i, s, p, e)
		}
	}
}

// P9.5, P10
func TestShare(t *testing.T) {
	four := clamps(1, 1, cube(3, 1, 1), cube(5, 1, 1), cube(4, 1, 1), cube(5, 1, 1))
	for i, x := range []struct {
		c       api.Clamp
		n, want int
		e       api.Errno
	}{
		{clampsC(), 30, 2, api.OK}, {clampsC(), 40, 3, api.OK}, {clampsC(), 50, 0, api.ErrNone}, {clampsC(), 0, 0, api.OK}, {clampsC(), 12, 1, api.OK}, {clampsC(), 13, 2, api.OK}, {clampsC(), 32, 2, api.OK}, {clampsC(), 33, 3, api.OK}, {clampsC(), 44, 3, api.OK}, {clampsC(), 45, 0, api.ErrNone}, {clampsK(), 45, 3, api.OK}, {clampsC(), 20000, 0, api.ErrNone},
		// The fewest come first, then the least number.
		{four, 1, 0b1, api.OK}, {four, 3, 0b1, api.OK}, {four, 4, 0b10, api.OK}, {four, 5, 0b10, api.OK}, {four, 6, 0b11, api.OK}, {four, 8, 0b11, api.OK}, {four, 9, 0b110, api.OK}, {four, 10, 0b1010, api.OK}, {four, 11, 0b111, api.OK}, {four, 12, 0b111, api.OK}, {four, 13, 0b1011, api.OK}, {four, 14, 0b1110, api.OK}, {four, 15, 0b1111, api.OK}, {four, 17, 0b1111, api.OK}, {four, 18, 0, api.ErrNone}, {then(four, sale(1, 1, 3)), 5, 0b1000, api.OK}, {then(four, sale(3, 0, 1), sale(1, 0, 1)), 5, 0b11, api.OK},
		// They have the same pack: together they can surely have more than each of them surely has.
		{apart(), 44, 3, api.OK}, {apart(), 45, 0, api.ErrNone}, {apart(), 18, 1, api.OK}, {apart(), 19, 2, api.OK}, {apart(), 20, 2, api.OK}, {apart(), 21, 3, api.OK},
		// No clamps have nothing, also if those that there are have nothing; nothing else is enough if they have.
		{short(9, sale(0, 9, 9)), 0, 0, api.OK}, {short(9, sale(0, 9, 9)), 1, 0, api.ErrNone}, {short(9, sale(0, 8, 9)), 1, 0, api.ErrNone}, {short(9, sale(0, 7, 8)), 1, 1, api.OK},
		{greatest(), 2187, 1, api.OK}, {greatest(), 2188, 3, api.OK}, {greatest(), 8748, 15, api.OK}, {greatest(), 8749, 0, api.ErrNone}, {then(greatest(), count(2, 5000, 5000)), 5000, 4, api.OK}, {then(clamps(5, 5, cube(10, 10, 10), cube(10, 10, 10), cube(10, 10, 10), cube(10, 10, 10))), 20000, 15, api.OK},
	} {
		if n, e := clamp.Share(x.c, x.n); n != x.want || e != x.e {
			t.Errorf("%d: %b %d", i, n, e)
		}
	}
}

// P9.6, P4
func TestClash(t *testing.T) {
	wide := clamps(1, 3, cube(10, 1, 1), flat(4, 5))
	for i, x := range []struct {
		c    api.Clamp
		want int
		e    api.Errno
	}{
		{clampsN(), 0b1100, api.OK}, {clampsK(), 0, api.ErrNone}, {clampsC(), 0, api.ErrNone}, {greatest(), 0, api.ErrNone}, {short(9), 0, api.ErrNone},
		// One count can be enough: no clamp was built so, or too much was sold for it.
		{short(9, count(0, 8, 8)), 1, api.OK}, {short(9, sale(0, 2, 3), count(0, 8, 8)), 2, api.OK}, {short(9, sale(0, 2, 3), count(0, 5, 5)), 2, api.OK}, {short(9, sale(0, 2, 3), count(0, 7, 8)), 0, api.ErrNone}, {then(wide, count(0, 21, 29)), 1, api.OK}, {then(wide, count(1, 0, 5000), count(1, 0, 3)), 2, api.OK}, {short(9, count(0, 9, 9), sale(0, 2, 3), count(0, 9, 9)), 4, api.OK},
		// Of one clamp, or of several, by the pack; of two sets of so many the least number; fewer come before a lesser number.
		{three(), 0b1110, api.OK}, {then(wide, count(0, 10, 10), count(1, 8, 15)), 3, api.OK}, {then(wide, count(0, 10, 10), count(1, 5, 15)), 0, api.ErrNone}, {then(wide, count(1, 12, 15), count(0, 10, 20), count(1, 4, 10)), 0b11, api.OK}, {then(wide, count(0, 10, 10), count(1, 8, 15), count(1, 3, 3)), 4, api.OK}, {then(wide, count(1, 5, 5), count(1, 4, 5), count(1, 4, 4)), 0b101, api.OK}, {then(wide, count(0, 10, 10), count(0, 20, 20), count(0, 30, 30)), 0b11, api.OK},
		// Sales stay: a count can clash with what is sold after it.
		{then(wide, count(0, 10, 20), sale(0, 21, 21)), 1, api.OK}, {then(wide, count(1, 4, 8), sale(0, 11, 11)), 0, api.ErrNone}, {then(wide, count(1, 4, 4), sale(0, 11, 11)), 1, api.OK}, {then(wide, sale(0, 11, 11), count(1, 6, 9), count(0, 10, 30)), 0b110, api.OK}, {then(wide, sale(0, 11, 11), count(0, 10, 30), count(0, 0, 4)), 4, api.OK},
		// There is none even without counts.
		{short(9, sale(0, 10, 12)), 0, api.OK}, {short(9, sale(0, 5, 5), sale(0, 5, 5)), 0, api.OK}, {short(9, count(0, 3, 3), sale(0, 10, 12)), 0, api.OK}, {then(wide, sale(0, 31, 34)), 0, api.OK}, {then(wide, sale(0, 30, 30), sale(1, 15, 15)), 0, api.ErrNone}, {then(wide, sale(0, 30, 30), sale(1, 16, 16)), 0, api.OK}, {then(greatest(), sale(0, 5000, 5000), sale(0, 1, 1), count(1, 7, 7)), 0, api.OK},
		{then(greatest(), count(0, 5000, 5000), count(1, 2916, 2916), count(2, 2187, 2187), count(3, 2430, 2430)), 0b11, api.OK}, {then(greatest(), count(1, 2187, 2430), count(2, 2600, 3300), count(0, 2700, 3240), count(3, 4374, 5000)), 0b1001, api.OK},
	} {
		if n, e := clamp.Clash(x.c); n != x.want || e != x.e {
			t.Errorf("%d: %b %d", i, n, e)
		}
	}
}

// P9.1 to P9.6, P2, P4, P10: what is returned is what all truths leave.
func TestOneByOne(t *testing.T) {
	for _, c := range append(fewTruths(1, 1500), clampsC(), clampsK(), clampsN(), apart(), three()) {
		checkAll(t, c, oneByOne(c))
	}
}

// P9.1 to P9.6, P2, P4, P10: so it is of clamps of any size.
func TestByPack(t *testing.T) {
	for _, c := range append(anyClamps(2, 1500), clampsC(), clampsK(), clampsN(), apart(), three(), greatest(), then(greatest(), sale(0, 2999, 3002), count(1, 3000, 4000), sale(1, 17, 20))) {
		checkAll(t, c, byPack(c))
	}
}

// The two ways to find what truths leave agree.
func TestBothWays(t *testing.T) {
	clashes, hopeless, truths := 0, 0, 0
	for _, c := range fewTruths(3, 1000) {
		k := oneByOne(c)
		if k != byPack(c) {
			t.Errorf("%+v: %+v, %+v", c, k, byPack(c))
		}
		switch {
		case k.truth:
			truths++
		case k.clash == 0:
			hopeless++
		default:
			clashes++
		}
	}
	if clashes < 50 || hopeless < 50 || truths < 300 {
		t.Error(clashes, hopeless, truths)
	}
}
