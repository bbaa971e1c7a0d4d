package cut_test

import (
	"testing"

	"bogworks/api"
	"bogworks/cut"
)

// cutC, cutX and cutN are those of the document's examples.
func cutC() api.Cut {
	return api.Cut{
		Depth: span(10, 12), Leak: span(1, 2), Rain: []api.Span{span(3, 5), span(0, 0), span(0, 4), span(8, 9)}, Most: 20,
		Boats: []api.CutBoat{boat(6, 7, 3, 4), boat(13, 13, 2, 2)},
	}
}

func cutX() api.Cut { return then(cutC(), look(2, 14, 20)) }

func cutN() api.Cut { return then(cutX(), look(3, 5, 9)) }

// greatest returns the greatest cut that is valid, without looks.
func greatest() api.Cut {
	c := api.Cut{Depth: span(0, 100), Leak: span(0, 10), Most: 100}
	for range api.CutDays {
		c.Rain = append(c.Rain, span(0, 30))
	}
	return aboard(c, boat(0, 100, 10, 10), boat(0, 0, 10, 10), boat(100, 100, 0, 10), boat(50, 50, 5, 10))
}

// still returns a cut without rain in which nothing leaks away, with one boat.
func still(depth, most int, b api.CutBoat) api.Cut {
	return aboard(water(span(depth, depth), span(0, 0), most, span(0, 0)), b)
}

// three has three looks, of which any two can be right.
func three() api.Cut {
	return then(water(span(10, 10), span(0, 4), 50, span(0, 6), span(0, 0), span(0, 0)), look(1, 10, 10), look(2, 8, 8), look(3, 4, 4))
}

// P6.1
func TestDepth(t *testing.T) {
	hidden := water(span(10, 14), span(3, 3), 14, span(3, 5), span(0, 9))
	for i, x := range []struct {
		c    api.Cut
		day  int
		want api.Span
	}{
		{cutC(), 1, span(11, 16)}, {cutC(), 2, span(9, 15)}, {cutC(), 3, span(7, 18)}, {cutC(), 4, span(13, 20)}, {cutX(), 0, span(11, 12)}, {cutX(), 3, span(13, 18)},
		{cutC(), 0, span(10, 12)}, {cutX(), 1, span(15, 16)}, {cutX(), 2, span(14, 15)}, {cutX(), 4, span(20, 20)},
		// Rain and leak change the depth together; it is held only then.
		{water(span(19, 19), span(2, 2), 20, span(5, 5)), 1, span(20, 20)}, {water(span(1, 1), span(3, 3), 20, span(5, 5)), 1, span(3, 3)}, {water(span(20, 20), span(10, 10), 20, span(10, 10)), 1, span(20, 20)},
		{water(span(0, 0), span(4, 4), 20, span(4, 4)), 1, span(0, 0)}, {water(span(0, 0), span(4, 4), 20, span(5, 5)), 1, span(1, 1)}, {water(span(0, 0), span(5, 5), 20, span(4, 4)), 1, span(0, 0)},
		// It is held from day to day: what is lost there is not had later.
		{water(span(18, 18), span(3, 3), 20, span(30, 30), span(0, 0)), 2, span(17, 17)}, {water(span(2, 2), span(10, 10), 20, span(0, 0), span(13, 13)), 2, span(3, 3)}, {water(span(0, 1), span(0, 0), 1, span(0, 30)), 1, span(0, 1)},
		{water(span(0, 20), span(10, 10), 20, span(0, 0), span(0, 0)), 1, span(0, 10)}, {water(span(0, 20), span(10, 10), 20, span(0, 0), span(0, 0)), 2, span(0, 0)},
		// It rains as much as it likes each day, but the same number leaks away on all of them.
		{then(water(span(50, 50), span(0, 9), 100, span(0, 0), span(0, 0)), look(1, 47, 47)), 2, span(44, 44)}, {then(water(span(50, 50), span(3, 3), 100, span(0, 9), span(0, 9)), look(1, 47, 47)), 2, span(44, 53)},
		{then(water(span(50, 50), span(0, 9), 100, span(0, 0), span(0, 0)), look(2, 40, 44)), 1, span(45, 47)},
		// A look is right at the beginning of its day, also of the first one and of the one after the last; later looks tell of earlier days.
		{then(cutC(), look(0, 12, 100)), 0, span(12, 12)}, {then(cutC(), look(0, 12, 100)), 1, span(13, 16)}, {then(cutC(), look(4, 0, 13)), 4, span(13, 13)}, {then(cutC(), look(4, 0, 13)), 0, span(10, 10)}, {then(cutC(), look(4, 0, 13)), 3, span(7, 7)},
		{then(cutC(), look(1, 0, 12), look(1, 12, 100)), 1, span(12, 12)}, {then(cutC(), look(1, 13, 100), look(4, 0, 15)), 0, span(10, 12)}, {then(cutC(), look(1, 13, 100), look(4, 0, 15)), 1, span(13, 13)},
		// Of water that is held a look tells little of what was before, and of what leaks away.
		{then(hidden, look(1, 14, 14)), 0, span(12, 14)}, {then(hidden, look(1, 13, 13)), 0, span(11, 13)}, {then(hidden, look(2, 14, 14)), 0, span(10, 14)}, {then(hidden, look(2, 8, 8)), 1, span(10, 11)},
		{then(water(span(0, 9), span(5, 7), 20, span(0, 1)), look(1, 0, 0)), 0, span(0, 7)}, {then(water(span(0, 9), span(5, 7), 20, span(0, 1)), look(1, 1, 1)), 0, span(5, 8)}, {then(water(span(0, 9), span(5, 7), 20, span(0, 1)), look(1, 1, 1)), 1, span(1, 1)},
		{greatest(), 0, span(0, 100)}, {greatest(), 8, span(0, 100)}, {then(greatest(), look(8, 0, 0)), 7, span(0, 10)}, {then(greatest(), look(8, 0, 0)), 0, span(0, 80)}, {then(greatest(), look(8, 100, 100), look(6, 40, 40)), 7, span(70, 70)},
	} {
		if w, e := cut.Depth(x.c, x.day); w != x.want || e != api.OK {
			t.Error(i, w, e)
		}
	}
}

// P6.1
func TestLeak(t *testing.T) {
	for i, x := range []struct {
		c    api.Cut
		want api.Span
	}{
		{cutC(), span(1, 2)}, {cutX(), span(1, 1)}, {then(cutC(), look(2, 0, 9)), span(2, 2)}, {then(cutC(), look(2, 10, 13)), span(1, 2)}, {then(cutC(), look(0, 11, 11)), span(1, 2)},
		{then(water(span(50, 50), span(0, 9), 100, span(0, 0), span(0, 0)), look(2, 40, 44)), span(3, 5)}, {then(water(span(50, 50), span(0, 10), 100, span(0, 3)), look(1, 40, 43)), span(7, 10)},
		// Water that is held hides what leaks away.
		{then(water(span(5, 5), span(3, 10), 20, span(0, 0)), look(1, 0, 0)), span(5, 10)}, {then(water(span(5, 5), span(0, 10), 5, span(3, 3)), look(1, 5, 5)), span(0, 3)}, {then(water(span(5, 5), span(0, 10), 5, span(3, 3)), look(1, 4, 4)), span(4, 4)},
		{greatest(), span(0, 10)}, {water(span(0, 0), span(10, 10), 1, span(0, 0)), span(10, 10)}, {water(span(0, 0), span(0, 0), 1, span(0, 0)), span(0, 0)},
	} {
		if w, e := cut.Leak(x.c); w != x.want || e != api.OK {
			t.Error(i, w, e)
		}
	}
}

// P6.2, P7
func TestFloats(t *testing.T) {
	for i, x := range []struct {
		c                      api.Cut
		boat, loads, day, want int
	}{
		{cutC(), 0, 1, 0, api.CutAlways}, {cutC(), 0, 2, 0, api.CutPerhaps}, {cutC(), 0, 3, 0, api.CutNever},
		{cutC(), 0, 0, 2, api.CutAlways}, {cutC(), 0, 1, 2, api.CutPerhaps}, {cutC(), 1, 0, 4, api.CutAlways}, {cutC(), 1, 1, 4, api.CutPerhaps}, {cutC(), 1, 0, 0, api.CutNever}, {cutC(), 1, 2, 4, api.CutPerhaps}, {cutC(), 0, 4, 4, api.CutPerhaps}, {cutX(), 0, 4, 4, api.CutAlways}, {cutX(), 1, 1, 1, api.CutAlways},
		// Water that is just as deep bears the boat.
		{still(7, 20, boat(7, 7, 3, 4)), 0, 0, 0, api.CutAlways}, {still(7, 20, boat(8, 8, 3, 4)), 0, 0, 0, api.CutNever}, {still(7, 20, boat(7, 8, 3, 4)), 0, 0, 1, api.CutPerhaps}, {still(19, 20, boat(7, 7, 3, 4)), 0, 4, 1, api.CutAlways}, {still(18, 20, boat(7, 7, 3, 4)), 0, 4, 1, api.CutNever},
		{still(0, 1, boat(0, 0, 0, 10)), 0, 10, 1, api.CutAlways}, {still(0, 1, boat(0, 0, 1, 10)), 0, 0, 0, api.CutAlways}, {still(0, 1, boat(0, 0, 1, 10)), 0, 1, 0, api.CutNever}, {still(100, 100, boat(0, 0, 10, 10)), 0, 10, 0, api.CutAlways}, {still(99, 100, boat(0, 0, 10, 10)), 0, 10, 0, api.CutNever},
		// What a boat draws is known no better by looks at the water.
		{then(aboard(water(span(0, 20), span(0, 0), 20, span(0, 0)), boat(5, 6, 1, 1)), look(1, 6, 6)), 0, 0, 0, api.CutAlways}, {then(aboard(water(span(0, 20), span(0, 0), 20, span(0, 0)), boat(5, 6, 1, 1)), look(1, 6, 6)), 0, 1, 0, api.CutPerhaps},
		{greatest(), 0, 0, 0, api.CutPerhaps}, {greatest(), 1, 0, 8, api.CutAlways}, {greatest(), 1, 10, 8, api.CutPerhaps}, {greatest(), 2, 10, 0, api.CutPerhaps}, {greatest(), 0, 10, 8, api.CutPerhaps},
	} {
		if n, e := cut.Floats(x.c, x.boat, x.loads, x.day); n != x.want || e != api.OK {
			t.Error(i, n, e)
		}
	}
}

// P6.3, P7
func TestLoads(t *testing.T) {
	for i, x := range []struct {
		c                          api.Cut
		boat, day, surely, perhaps int
	}{
		{cutC(), 0, 0, 1, 2}, {cutC(), 0, 2, 0, 3}, {cutC(), 1, 1, -1, 1}, {cutC(), 0, 4, 2, 4}, {cutC(), 1, 0, -1, -1}, {cutC(), 1, 4, 0, 2}, {cutX(), 0, 4, 4, 4}, {cutX(), 1, 2, 0, 1},
		// Up to the room, though there would be water for more.
		{still(100, 100, boat(0, 0, 1, 0)), 0, 0, 0, 0}, {still(100, 100, boat(0, 0, 1, 10)), 0, 1, 10, 10}, {still(10, 100, boat(0, 0, 1, 10)), 0, 1, 10, 10}, {still(9, 100, boat(0, 0, 1, 10)), 0, 1, 9, 9}, {still(19, 20, boat(1, 1, 10, 10)), 0, 0, 1, 1},
		// A load can weigh nothing.
		{still(7, 20, boat(7, 7, 0, 5)), 0, 0, 5, 5}, {still(7, 20, boat(7, 8, 0, 5)), 0, 0, -1, 5}, {still(7, 20, boat(8, 8, 0, 5)), 0, 0, -1, -1}, {still(7, 20, boat(5, 7, 2, 5)), 0, 0, 0, 1},
		{greatest(), 0, 0, -1, 10}, {greatest(), 1, 8, 0, 10}, {greatest(), 2, 3, -1, 10}, {greatest(), 3, 3, -1, 10},
	} {
		if s, p, e := cut.Loads(x.c, x.boat, x.day); s != x.surely || p != x.perhaps || e != api.OK {
			t.Error(i, s, p, e)
		}
	}
}

// P6.4, P7
func TestDays(t *testing.T) {
	for i, x := range []struct {
		c                            api.Cut
		boat, loads, surely, perhaps int
	}{
		{cutC(), 0, 1, 0b10011, 0b11111}, {cutC(), 0, 0, 0b11111, 0b11111}, {cutC(), 0, 4, 0, 0b11000}, {cutC(), 0, 3, 0, 0b11110}, {cutC(), 1, 0, 0b10000, 0b11110}, {cutC(), 1, 2, 0, 0b11000}, {cutX(), 1, 0, 0b11110, 0b11110}, {cutX(), 1, 2, 0b10000, 0b11000},
		{still(5, 5, boat(5, 5, 1, 1)), 0, 0, 0b11, 0b11}, {still(5, 5, boat(5, 5, 1, 1)), 0, 1, 0, 0}, {still(5, 5, boat(4, 5, 1, 1)), 0, 1, 0, 0b11},
		{greatest(), 0, 0, 0, 0x1ff}, {greatest(), 1, 0, 0x1ff, 0x1ff}, {greatest(), 1, 10, 0, 0x1ff}, {then(greatest(), look(8, 100, 100), look(6, 40, 40)), 1, 7, 0x180, 0x180}, {then(greatest(), look(8, 100, 100), look(6, 40, 40)), 1, 4, 0x1c0, 0x1ff},
	} {
		if s, p, e := cut.Days(x.c, x.boat, x.loads); s != x.surely || p != x.perhaps || e != api.OK {
			t.Error(i, s, p, e)
		}
	}
}

// P6.5
func TestUntil(t *testing.T) {
	for i, x := range []struct {
		c                      api.Cut
		boat, loads, day, want int
		e                      api.Errno
	}{
		{cutC(), 0, 1, 2, 4, api.OK}, {cutC(), 1, 0, 0, 4, api.OK}, {cutC(), 1, 2, 0, 0, api.ErrNone},
		// The day itself, the last one, and none after it; what was before does not matter.
		{cutC(), 0, 1, 0, 0, api.OK}, {cutC(), 0, 1, 1, 1, api.OK}, {cutC(), 0, 1, 4, 4, api.OK}, {cutX(), 0, 1, 2, 2, api.OK}, {cutX(), 0, 2, 1, 1, api.OK}, {cutX(), 0, 3, 2, 4, api.OK}, {cutC(), 0, 4, 4, 0, api.ErrNone}, {then(cutC(), look(0, 11, 11), look(3, 0, 8)), 0, 2, 0, 4, api.OK}, {then(cutC(), look(0, 11, 11), look(3, 0, 8)), 0, 1, 1, 1, api.OK},
		{aboard(water(span(9, 9), span(2, 2), 9, span(0, 0), span(0, 0)), boat(7, 7, 1, 0)), 0, 0, 1, 1, api.OK}, {aboard(water(span(9, 9), span(2, 2), 9, span(0, 0), span(0, 0)), boat(7, 7, 1, 0)), 0, 0, 2, 0, api.ErrNone}, {still(5, 5, boat(5, 5, 1, 1)), 0, 1, 0, 0, api.ErrNone},
		{greatest(), 1, 1, 0, 0, api.ErrNone}, {then(greatest(), look(8, 100, 100), look(6, 40, 40)), 1, 5, 0, 7, api.OK}, {then(greatest(), look(8, 100, 100), look(6, 40, 40)), 1, 8, 0, 8, api.OK},
	} {
		if n, e := cut.Until(x.c, x.boat, x.loads, x.day); n != x.want || e != x.e {
			t.Error(i, n, e)
		}
	}
}

// P6.6, P7
func TestTogether(t *testing.T) {
	for i, x := range []struct {
		c         api.Cut
		day, want int
	}{
		{cutC(), 0, 1}, {cutC(), 4, 2}, {cutC(), 1, 1}, {cutC(), 2, 0}, {cutX(), 0, 1}, {cutX(), 1, 3}, {cutX(), 4, 6},
		// A boat that does not float has no loads, and takes none from another one.
		{aboard(cutC()), 4, 0}, {aboard(cutC(), boat(50, 50, 0, 10), boat(6, 7, 3, 4), boat(21, 21, 1, 1), boat(13, 14, 1, 9)), 4, 2}, {aboard(cutC(), boat(6, 7, 3, 4), boat(6, 7, 3, 4), boat(6, 7, 3, 1), boat(6, 7, 3, 0)), 4, 5},
		{aboard(still(100, 100, boat(0, 0, 10, 10)), boat(0, 0, 10, 10), boat(0, 0, 0, 10), boat(0, 9, 9, 10), boat(90, 90, 1, 10)), 1, 40}, {greatest(), 0, 0}, {aboard(greatest(), boat(0, 0, 0, 3), boat(0, 0, 1, 3), boat(0, 1, 0, 3)), 8, 3},
	} {
		if n, e := cut.Together(x.c, x.day); n != x.want || e != api.OK {
			t.Error(i, n, e)
		}
	}
}

// P6.7, P4
func TestClash(t *testing.T) {
	five := then(cutC(), look(0, 10, 12), look(1, 11, 16), look(2, 9, 15), look(3, 7, 18))
	for i, x := range []struct {
		c    api.Cut
		want int
		e    api.Errno
	}{
		{cutN(), 3, api.OK}, {cutX(), 0, api.ErrNone}, {cutC(), 0, api.ErrNone}, {greatest(), 0, api.ErrNone}, {then(five, look(4, 13, 20)), 0, api.ErrNone}, {then(five, look(4, 0, 12)), 16, api.OK},
		// A look can be one that is right in no truth: above the rim, or too deep, or too shallow.
		{then(cutC(), look(4, 21, 100)), 1, api.OK}, {then(cutC(), look(4, 20, 100)), 0, api.ErrNone}, {then(cutC(), look(0, 0, 9)), 1, api.OK}, {then(cutN(), look(0, 13, 20)), 4, api.OK}, {then(cutN(), look(2, 16, 16), look(2, 8, 8)), 4, api.OK},
		// The fewest looks come before the least number, and of several sets the least number is meant.
		{three(), 7, api.OK}, {then(three(), look(3, 10, 12)), 0b1010, api.OK}, {then(three(), look(0, 11, 11)), 8, api.OK}, {then(cutN(), look(3, 5, 9)), 3, api.OK}, {then(cutC(), look(3, 5, 9), look(3, 5, 9), look(2, 14, 20)), 5, api.OK},
		{then(cutC(), look(3, 5, 9), look(2, 14, 20), look(2, 14, 20), look(3, 5, 9)), 3, api.OK}, {then(cutC(), look(1, 12, 14), look(4, 0, 13), look(0, 11, 12), look(2, 13, 13), look(2, 12, 12)), 3, api.OK},
		// Looks clash by what leaks away, though each depth could follow from the one before.
		{then(water(span(50, 50), span(0, 9), 100, span(0, 0), span(0, 0)), look(1, 47, 47), look(2, 42, 42)), 3, api.OK}, {then(water(span(50, 50), span(0, 9), 100, span(0, 0), span(0, 1)), look(1, 47, 47), look(2, 43, 44)), 0, api.ErrNone},
		{then(water(span(5, 8), span(0, 0), 9, span(0, 0)), look(0, 0, 6), look(1, 7, 9)), 3, api.OK}, {then(water(span(5, 8), span(0, 0), 9, span(0, 0)), look(0, 0, 7), look(0, 7, 9)), 0, api.ErrNone}, {then(water(span(5, 8), span(0, 0), 9, span(0, 0)), look(0, 0, 6), look(0, 7, 9)), 3, api.OK},
	} {
		if n, e := cut.Clash(x.c); n != x.want || e != x.e {
			t.Error(i, n, e)
		}
	}
}

// P6.1 to P6.7, against all truths one by one.
func TestAgainstEachTruth(t *testing.T) {
	for _, c := range smallCuts(1, 2000) {
		checkAll(t, c, oneByOne(c))
	}
	for _, c := range []api.Cut{cutC(), cutX(), cutN(), three(), then(cutN(), look(0, 13, 20))} {
		checkAll(t, c, oneByOne(c))
	}
}

// P6.1 to P6.7, of cuts of any size, against all depths that the water can have by each leak.
func TestGreatAgainstEachDepth(t *testing.T) {
	for _, c := range append(anyCuts(2, 600), greatest(), then(greatest(), look(8, 0, 0), look(0, 90, 100)), then(greatest(), look(8, 100, 100), look(6, 40, 40))) {
		checkAll(t, c, byDepths(c))
	}
}

// The two ways of the tests to find what is so agree.
func TestOracles(t *testing.T) {
	for _, c := range smallCuts(3, 500) {
		if a, b := oneByOne(c), byDepths(c); a != b {
			t.Errorf("%+v: %+v, %+v", c, a, b)
		}
	}
}

// P6.1 to P6.7, of all cuts of some few: shallow ones, of two days, with a look on each of them.
func TestAllTinyCuts(t *testing.T) {
	for most := 1; most <= 3; most++ {
		for leak := range 4 {
			for rain := range 4 {
				for _, deep := range []api.Span{span(0, most), span(most, most), span(0, 0)} {
					c := aboard(water(deep, span(leak/2, leak), most, span(rain/2, rain), span(3-rain, 3)), boat(0, 1, 1, 1), boat(1, 1, 2, 1))
					for day := range 3 {
						for n := range most + 1 {
							d := then(c, look(day, n, n), look((day+1)%3, n/2, n))
							checkAll(t, d, oneByOne(d))
						}
					}
				}
			}
		}
	}
}
