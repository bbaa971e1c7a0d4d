package drain_test

import (
	"testing"

	"bogworks/api"
	"bogworks/drain"
)

// drainsD, drainsE and drainsN are those of the document's examples.
func drainsD() api.Drain {
	return api.Drain{
		Banks:  []api.DrainBank{bank(10, 10, 4, 5), bank(8, 9, 2, 2), bank(8, 8, 3, 3), bank(5, 5, 1, 1)},
		Drains: []api.DrainWay{way(0, 1), way(0, 2), way(1, 3), way(2, 3)},
		Rights: []api.DrainRight{right(0, 2, 3), right(1, 3, 7)},
	}
}

func drainsE() api.Drain { return then(drainsD(), way(0, 1)) }

func drainsN() api.Drain { return then(drainsE(), way(0, 2)) }

// greatest returns the greatest drains that are valid, of which nothing was seen: all banks are joined in a ring, and the first two
// with the third one, too.
func greatest() (d api.Drain) {
	for range api.DrainBanks {
		d.Banks = append(d.Banks, bank(18, 20, 18, 20))
	}
	d = joined(d, way(0, 1), way(1, 2), way(2, 3), way(3, 4), way(4, 0), way(0, 2), way(3, 1))
	return under(d, right(0, 1, 39), right(1, 0, 100), right(2, 4, 0), right(4, 3, 20))
}

// flat returns banks of known levels, of which each yields one more than the one before, joined by nothing.
func flat(levels ...int) (d api.Drain) {
	for i, n := range levels {
		d.Banks = append(d.Banks, bank(n, n, i+1, i+1))
	}
	return d
}

// stairs returns banks of which each is lower than the one before, and joined with it. They yield 1, 2, 3 and so on.
func stairs(banks int) (d api.Drain) {
	for i := range banks {
		d.Banks = append(d.Banks, bank(9-i, 9-i, i+1, i+1))
		if i > 0 {
			d = joined(d, way(i, i-1))
		}
	}
	return d
}

// either returns a bank that is joined with two lower ones, of which it is not known which one is the lowest.
func either() api.Drain {
	return joined(banks(bank(9, 9, 1, 3), bank(4, 5, 1, 1), bank(4, 5, 0, 2)), way(0, 1), way(0, 2))
}

// level returns two banks that may lie at the same level.
func level() api.Drain { return joined(banks(bank(4, 5, 2, 3), bank(4, 5, 1, 1)), way(0, 1)) }

// three has three things that were seen, of which any two can be right: four banks would need four levels, and there are three.
func three() api.Drain {
	any := bank(3, 5, 1, 1)
	d := joined(banks(any, any, any, any), way(0, 1), way(1, 2), way(2, 3))
	return then(d, way(0, 1), way(1, 2), way(2, 3))
}

// P7.1
func TestNext(t *testing.T) {
	for i, x := range []struct {
		d          api.Drain
		bank, want int
	}{
		{drainsD(), 0, 0b110}, {drainsD(), 1, 0b1000}, {drainsD(), 3, 0b10000}, {drainsE(), 0, 0b10}, {drainsD(), 2, 0b1000}, {drainsE(), 3, 0b10000},
		// Nowhere has the number of the banks.
		{flat(5), 0, 0b10}, {flat(5, 4), 0, 0b100}, {flat(5, 4, 3, 2, 1), 0, 0b100000}, {stairs(5), 4, 0b100000}, {stairs(5), 3, 0b10000}, {stairs(2), 0, 0b10}, {stairs(2), 1, 0b100},
		// A drain joins its banks in either order; water goes by it only down, and not at one level.
		{joined(flat(5, 4), way(1, 0)), 0, 0b10}, {joined(flat(5, 4), way(0, 1)), 0, 0b10}, {joined(flat(4, 5), way(0, 1)), 0, 0b100}, {joined(flat(4, 5), way(0, 1)), 1, 0b1}, {joined(flat(5, 5), way(0, 1)), 0, 0b100}, {joined(flat(5, 5), way(0, 1)), 1, 0b100},
		{level(), 0, 0b110}, {level(), 1, 0b101}, {then(level(), way(0, 1)), 1, 0b100}, {then(level(), way(0, 1)), 0, 0b10},
		// Of several lower banks the lowest, and of several of these that with the least number, whatever the order of the drains.
		{joined(flat(9, 4, 3), way(0, 1), way(0, 2)), 0, 0b100}, {joined(flat(9, 4, 3), way(0, 2), way(0, 1)), 0, 0b100}, {joined(flat(9, 3, 4), way(0, 2), way(0, 1)), 0, 0b10}, {joined(flat(9, 4, 4), way(0, 2), way(0, 1)), 0, 0b10}, {joined(flat(4, 4, 9), way(2, 1), way(0, 2)), 2, 0b1}, {joined(flat(4, 9, 4), way(1, 2), way(1, 0)), 1, 0b1},
		{either(), 0, 0b110}, {joined(banks(bank(9, 9, 0, 0), bank(3, 4, 0, 0), bank(4, 5, 0, 0)), way(0, 1), way(0, 2)), 0, 0b10}, {joined(banks(bank(9, 9, 0, 0), bank(4, 5, 0, 0), bank(3, 4, 0, 0)), way(0, 1), way(0, 2)), 0, 0b110},
		// A lower bank that is not joined does not matter.
		{joined(flat(9, 4, 3), way(0, 1), way(1, 2)), 0, 0b10}, {joined(flat(9, 4, 3), way(1, 2)), 0, 0b1000}, {joined(flat(3, 9), way(0, 1), way(0, 1)), 1, 0b1},
		// What was seen tells of other banks, too.
		{then(either(), way(0, 2)), 0, 0b100}, {then(joined(either(), way(1, 2)), way(0, 2)), 1, 0b100}, {joined(either(), way(1, 2)), 1, 0b1100}, {then(joined(either(), way(1, 2)), way(0, 1)), 1, 0b1000}, {then(joined(either(), way(1, 2)), way(0, 1)), 2, 0b1010},
		{greatest(), 0, 0b110110}, {greatest(), 4, 0b101001}, {then(greatest(), way(0, 2), way(1, 2), way(4, 3)), 2, 0b100000},
	} {
		if n, e := drain.Next(x.d, x.bank); n != x.want || e != api.OK {
			t.Errorf("%d: %b %d", i, n, e)
		}
	}
}

// P7.1
func TestEnds(t *testing.T) {
	for i, x := range []struct {
		d          api.Drain
		bank, want int
	}{
		{drainsD(), 0, 0b1000}, {drainsD(), 3, 0b1000}, {drainsD(), 1, 0b1000}, {drainsE(), 0, 0b1000},
		// A bank whose water goes nowhere is its own end.
		{flat(5), 0, 0b1}, {flat(5, 4), 1, 0b10}, {stairs(5), 0, 0b10000}, {stairs(5), 3, 0b10000}, {stairs(5), 4, 0b10000}, {joined(flat(5, 5), way(0, 1)), 0, 0b1},
		{level(), 0, 0b11}, {level(), 1, 0b11}, {then(level(), way(1, 0)), 0, 0b1}, {then(level(), way(1, 0)), 1, 0b1}, {either(), 0, 0b110}, {either(), 1, 0b10},
		// Water goes to the lowest bank that is joined, not to the lowest that it could come to.
		{joined(flat(9, 5, 6, 1), way(0, 1), way(0, 2), way(2, 3)), 0, 0b10}, {joined(flat(9, 5, 6, 1), way(0, 1), way(0, 2), way(2, 3)), 2, 0b1000},
		{greatest(), 0, 0b11111}, {then(greatest(), way(0, 2), way(1, 2), way(4, 3)), 0, 0b100}, {then(greatest(), way(0, 2), way(1, 2), way(4, 3)), 4, 0b1100},
	} {
		if n, e := drain.Ends(x.d, x.bank); n != x.want || e != api.OK {
			t.Errorf("%d: %b %d", i, n, e)
		}
	}
}

// P7.2
func TestWater(t *testing.T) {
	for i, x := range []struct {
		d    api.Drain
		bank int
		want api.Span
	}{
		{drainsD(), 1, span(2, 7)}, {drainsD(), 3, span(10, 11)}, {drainsE(), 1, span(6, 7)}, {drainsD(), 0, span(4, 5)}, {drainsD(), 2, span(3, 8)}, {drainsE(), 2, span(3, 3)},
		{flat(5), 0, span(1, 1)}, {stairs(5), 0, span(1, 1)}, {stairs(5), 2, span(6, 6)}, {stairs(5), 4, span(15, 15)}, {flat(5, 4), 1, span(2, 2)},
		{level(), 0, span(2, 4)}, {level(), 1, span(1, 4)}, {then(level(), way(0, 1)), 1, span(3, 4)}, {either(), 1, span(1, 4)}, {either(), 2, span(0, 5)},
		// The levels are the same for all banks: water of both comes to the end, though it is not known by which way.
		{joined(either(), way(1, 2)), 2, span(0, 6)}, {joined(banks(bank(9, 9, 5, 6), bank(4, 5, 1, 1), bank(4, 5, 2, 2), bank(0, 0, 0, 1)), way(0, 1), way(0, 2), way(1, 3), way(2, 3)), 3, span(8, 10)},
		{greatest(), 0, span(18, 100)}, {greatest(), 2, span(18, 100)}, {then(greatest(), way(0, 2), way(1, 2), way(4, 3)), 2, span(54, 100)}, {banks(bank(20, 20, 20, 20)), 0, span(20, 20)}, {banks(bank(0, 0, 0, 0)), 0, span(0, 0)},
	} {
		if w, e := drain.Water(x.d, x.bank); w != x.want || e != api.OK {
			t.Error(i, w, e)
		}
	}
}

// P7.3
func TestFlow(t *testing.T) {
	for i, x := range []struct {
		d    api.Drain
		a, b int
		want api.Span
	}{
		{drainsD(), 0, 1, span(0, 5)}, {drainsD(), 1, 3, span(2, 7)}, {drainsD(), 3, 1, span(0, 0)}, {drainsE(), 0, 1, span(4, 5)}, {drainsE(), 0, 2, span(0, 0)}, {drainsE(), 1, 3, span(6, 7)},
		// Only straight, and all water of the first bank.
		{drainsD(), 0, 3, span(0, 0)}, {stairs(5), 0, 1, span(1, 1)}, {stairs(5), 1, 0, span(0, 0)}, {stairs(5), 0, 2, span(0, 0)}, {stairs(5), 3, 4, span(10, 10)}, {flat(5, 4), 0, 1, span(0, 0)},
		{level(), 0, 1, span(0, 3)}, {level(), 1, 0, span(0, 1)}, {then(level(), way(0, 1)), 0, 1, span(2, 3)}, {then(level(), way(0, 1)), 1, 0, span(0, 0)},
		{either(), 0, 1, span(0, 3)}, {either(), 0, 2, span(0, 3)}, {either(), 1, 2, span(0, 0)}, {joined(flat(9, 3, 3), way(0, 1), way(0, 2)), 0, 2, span(0, 0)},
		{greatest(), 0, 3, span(0, 0)}, {greatest(), 0, 2, span(0, 40)}, {greatest(), 3, 4, span(0, 60)}, {then(greatest(), way(0, 2), way(1, 2), way(4, 3)), 1, 2, span(18, 20)}, {then(greatest(), way(0, 2), way(1, 2), way(4, 3)), 3, 2, span(0, 40)},
	} {
		if w, e := drain.Flow(x.d, x.a, x.b); w != x.want || e != api.OK {
			t.Error(i, w, e)
		}
	}
}

// P7.4, P8
func TestBreaks(t *testing.T) {
	for i, x := range []struct {
		d               api.Drain
		surely, perhaps int
	}{
		{drainsD(), 0, 1}, {drainsE(), 0, 0}, {flat(5, 4), 0, 0}, {under(flat(5, 4), right(0, 1, 0)), 0, 0},
		// At most so much: not more. Nothing at all keeps each right.
		{under(stairs(3), right(0, 1, 1), right(1, 2, 3)), 0, 0}, {under(stairs(3), right(0, 1, 0), right(1, 2, 2)), 3, 3}, {under(stairs(3), right(1, 0, 0), right(2, 1, 0), right(0, 2, 0)), 0, 0}, {under(stairs(3), right(0, 1, 0), right(0, 2, 0), right(1, 2, 3), right(1, 2, 2)), 0b1001, 0b1001},
		// A right that is kept in some truths only, by levels, or by yields.
		{under(level(), right(0, 1, 0), right(0, 1, 2), right(0, 1, 3), right(1, 0, 0)), 0, 0b1011}, {under(then(level(), way(0, 1)), right(0, 1, 0), right(0, 1, 1), right(0, 1, 2), right(0, 1, 3)), 3, 7}, {under(then(level(), way(0, 1)), right(1, 0, 0)), 0, 0},
		// Of two rights one is broken in each truth, but none surely is.
		{under(joined(banks(bank(9, 9, 1, 3), bank(4, 5, 1, 1), bank(4, 5, 0, 2)), way(0, 1), way(0, 2)), right(0, 1, 0), right(0, 2, 0)), 0, 3},
		{greatest(), 0, 0b1001}, {then(greatest(), way(4, 3)), 0, 0b1000}, {then(greatest(), way(4, 3), way(0, 4)), 0b1000, 0b1000},
	} {
		if s, p, e := drain.Breaks(x.d); s != x.surely || p != x.perhaps || e != api.OK {
			t.Errorf("%d: %b %b %d", i, s, p, e)
		}
	}
}

// P7.5, P8
func TestDig(t *testing.T) {
	for i, x := range []struct {
		d          api.Drain
		a, b, want int
		e          api.Errno
	}{
		{drainsD(), 0, 3, api.DrainAlways, api.OK}, {drainsD(), 1, 2, api.DrainPerhaps, api.OK}, {drainsE(), 1, 2, api.DrainAlways, api.OK}, {drainsE(), 0, 3, api.DrainAlways, api.OK},
		// Between two banks in either order, also where there is a drain.
		{drainsD(), 3, 0, api.DrainAlways, api.OK}, {drainsD(), 2, 1, api.DrainPerhaps, api.OK}, {drainsD(), 0, 2, api.DrainPerhaps, api.OK}, {drainsE(), 2, 0, api.DrainAlways, api.OK},
		// A right that is broken by the drain, or that the drain helps to keep.
		{under(flat(5, 4), right(0, 1, 0)), 0, 1, api.DrainNever, api.OK}, {under(flat(5, 4), right(0, 1, 1)), 0, 1, api.DrainAlways, api.OK}, {under(flat(5, 4), right(1, 0, 0)), 0, 1, api.DrainAlways, api.OK}, {under(stairs(3), right(0, 1, 0)), 0, 2, api.DrainAlways, api.OK}, {under(stairs(3), right(0, 1, 0), right(0, 2, 0)), 0, 2, api.DrainNever, api.OK},
		{flat(5, 4), 0, 1, api.DrainAlways, api.OK}, {under(stairs(3), right(0, 1, 0)), 1, 2, api.DrainNever, api.OK}, {under(stairs(4), right(2, 3, 3)), 1, 3, api.DrainAlways, api.OK}, {under(stairs(4), right(2, 3, 3)), 0, 3, api.DrainNever, api.OK}, {under(stairs(4), right(2, 3, 5)), 0, 3, api.DrainAlways, api.OK}, {under(stairs(4), right(2, 3, 5)), 0, 2, api.DrainNever, api.OK},
		// Perhaps, by yields, or by levels; never, though each right is kept in some truth.
		{under(banks(bank(5, 5, 2, 3), bank(4, 4, 1, 1)), right(0, 1, 2)), 0, 1, api.DrainPerhaps, api.OK}, {under(banks(bank(4, 5, 2, 3), bank(4, 5, 1, 1)), right(0, 1, 1)), 0, 1, api.DrainPerhaps, api.OK}, {under(banks(bank(4, 5, 2, 3), bank(3, 3, 1, 1)), right(0, 1, 1)), 0, 1, api.DrainNever, api.OK},
		{under(joined(banks(bank(9, 9, 1, 3), bank(4, 5, 1, 1), bank(4, 5, 0, 2), bank(7, 7, 1, 1)), way(0, 1), way(0, 2)), right(0, 1, 0), right(0, 2, 0)), 1, 3, api.DrainNever, api.OK}, {under(joined(banks(bank(9, 9, 1, 3), bank(4, 5, 1, 1), bank(4, 5, 0, 2), bank(3, 4, 1, 1)), way(0, 1), way(0, 2)), right(0, 1, 0), right(0, 2, 0)), 0, 3, api.DrainPerhaps, api.OK},
		// With few yields all rights are kept at once.
		{under(banks(bank(5, 5, 2, 3), bank(4, 4, 1, 2), bank(3, 3, 0, 0)), right(0, 1, 2), right(1, 2, 1)), 0, 1, api.DrainPerhaps, api.OK}, {under(joined(banks(bank(5, 5, 2, 3), bank(4, 4, 1, 2), bank(3, 3, 0, 0)), way(0, 1)), right(0, 1, 2), right(1, 2, 3)), 1, 2, api.DrainPerhaps, api.OK}, {under(joined(banks(bank(5, 5, 2, 3), bank(4, 4, 1, 2), bank(3, 3, 0, 0)), way(0, 1)), right(0, 1, 2), right(1, 2, 2)), 1, 2, api.DrainNever, api.OK},
		// What was seen was seen without it: it is right though with the drain water would go another way, and tells of levels.
		{under(then(stairs(3), way(0, 1)), right(0, 1, 0)), 0, 2, api.DrainAlways, api.OK}, {under(then(level(), way(0, 1)), right(0, 1, 2)), 0, 1, api.DrainPerhaps, api.OK},
		{under(then(joined(banks(bank(4, 5, 2, 2), bank(4, 5, 1, 1), bank(0, 0, 1, 1)), way(0, 1)), way(0, 1)), right(1, 2, 1)), 1, 2, api.DrainNever, api.OK}, {under(joined(banks(bank(4, 5, 2, 2), bank(4, 5, 1, 1), bank(0, 0, 1, 1)), way(0, 1)), right(1, 2, 1)), 1, 2, api.DrainPerhaps, api.OK},
		// With seven drains there is no room for an eighth one, though no right would be broken.
		{greatest(), 0, 1, 0, api.ErrFull}, {joined(flat(5, 4), way(0, 1), way(0, 1), way(0, 1), way(0, 1), way(0, 1), way(0, 1), way(0, 1)), 1, 0, 0, api.ErrFull}, {joined(flat(5, 4), way(0, 1), way(0, 1), way(0, 1), way(0, 1), way(0, 1), way(0, 1)), 1, 0, api.DrainAlways, api.OK},
	} {
		if n, e := drain.Dig(x.d, x.a, x.b); n != x.want || e != x.e {
			t.Error(i, n, e)
		}
	}
}

// P7.6, P8
func TestStop(t *testing.T) {
	fan := joined(flat(9, 5, 4, 3), way(0, 1), way(0, 2), way(0, 3))
	for i, x := range []struct {
		d           api.Drain
		many, which int
	}{
		{drainsD(), 1, 0b10}, {drainsE(), 0, 0}, {stairs(5), 0, 0}, {flat(5), 0, 0}, {under(flat(5, 4), right(0, 1, 0)), 0, 0},
		{under(stairs(3), right(0, 1, 0)), 1, 1}, {under(stairs(3), right(1, 2, 0)), 1, 2}, {under(stairs(3), right(0, 1, 0), right(1, 2, 1)), 2, 3},
		// Of the sets of so many drains the least number; fewer come before a lesser number.
		{under(stairs(4), right(2, 3, 3)), 1, 0b10}, {under(stairs(4), right(2, 3, 5)), 1, 0b1}, {under(stairs(4), right(2, 3, 2)), 1, 0b100}, {under(stairs(4), right(2, 3, 2), right(0, 1, 0)), 2, 0b101},
		// Of two drains between the same banks both, in either order.
		{under(joined(flat(5, 4), way(0, 1), way(0, 1)), right(0, 1, 0)), 2, 3}, {under(joined(flat(5, 4), way(0, 1), way(1, 0)), right(0, 1, 0)), 2, 3}, {under(joined(flat(5, 4, 3), way(0, 1), way(1, 2), way(1, 0)), right(0, 1, 0)), 2, 5},
		// Without a drain water goes another way, and can break another right.
		{under(fan, right(0, 3, 0)), 1, 4}, {under(fan, right(0, 3, 0), right(0, 2, 0)), 2, 6}, {under(fan, right(0, 3, 0), right(0, 2, 0), right(0, 1, 0)), 3, 7}, {under(fan, right(0, 2, 0)), 0, 0}, {under(joined(fan, way(2, 1)), right(0, 3, 0), right(0, 2, 0), right(1, 2, 2)), 3, 7}, {under(joined(fan, way(2, 1)), right(0, 3, 0), right(0, 2, 0), right(1, 2, 3)), 2, 6},
		// In each truth, not in the most.
		{under(either(), right(0, 1, 0)), 1, 1}, {under(either(), right(0, 1, 2), right(0, 2, 2)), 2, 3}, {under(either(), right(0, 1, 2), right(0, 2, 3)), 1, 1}, {under(level(), right(0, 1, 2)), 1, 1}, {under(level(), right(0, 1, 3)), 0, 0},
		// What was seen was seen with all drains: it tells of levels, also if the drain is stopped by which the water went.
		{under(then(either(), way(0, 1)), right(0, 2, 0)), 0, 0}, {under(then(either(), way(0, 1)), right(0, 1, 0)), 1, 1}, {under(then(either(), way(0, 1)), right(0, 1, 0), right(0, 2, 0)), 2, 3}, {under(then(level(), way(1, 0)), right(0, 1, 0)), 0, 0},
		{under(then(joined(banks(bank(4, 5, 2, 2), bank(4, 5, 1, 1), bank(0, 0, 1, 1)), way(0, 1), way(1, 2), way(0, 2)), way(1, 2)), right(0, 2, 0), right(1, 0, 0)), 1, 4},
		{under(joined(flat(5, 4), way(0, 1), way(0, 1), way(0, 1), way(0, 1), way(0, 1), way(0, 1), way(0, 1)), right(0, 1, 0)), 7, 127}, {greatest(), 1, 0b10000},
	} {
		if m, n, e := drain.Stop(x.d); m != x.many || n != x.which || e != api.OK {
			t.Errorf("%d: %d %b %d", i, m, n, e)
		}
	}
}

// P7.7, P4
func TestClash(t *testing.T) {
	for i, x := range []struct {
		d    api.Drain
		want int
		e    api.Errno
	}{
		{drainsN(), 3, api.OK}, {drainsE(), 0, api.ErrNone}, {drainsD(), 0, api.ErrNone}, {greatest(), 0, api.ErrNone}, {flat(5), 0, api.ErrNone},
		// What was seen can be right in no truth: no drain joins the banks, or it does not go down, or another one is lower.
		{then(flat(5, 4), way(0, 1)), 1, api.OK}, {then(stairs(3), way(1, 0)), 1, api.OK}, {then(stairs(3), way(0, 2)), 1, api.OK}, {then(stairs(3), way(0, 1), way(1, 2)), 0, api.ErrNone}, {then(stairs(3), way(0, 1), way(0, 2)), 2, api.OK}, {then(joined(flat(9, 3, 3), way(0, 1), way(0, 2)), way(0, 2)), 1, api.OK}, {then(joined(flat(3, 3), way(0, 1)), way(0, 1)), 1, api.OK},
		// The fewest come before the least number, and of several sets the least number is meant.
		{three(), 7, api.OK}, {then(three(), way(1, 0)), 0b1001, api.OK}, {then(level(), way(0, 1), way(1, 0), way(0, 1), way(1, 0)), 3, api.OK}, {then(level(), way(0, 1), way(0, 1), way(1, 0)), 5, api.OK}, {then(level(), way(0, 1), way(0, 1)), 0, api.ErrNone}, {then(drainsN(), way(3, 0)), 4, api.OK}, {then(drainsN(), way(3, 0), way(0, 3)), 4, api.OK},
		// What was seen of one bank clashes with what was seen of others.
		{then(joined(either(), way(1, 2)), way(0, 1), way(1, 2)), 3, api.OK}, {then(joined(either(), way(1, 2)), way(0, 1), way(2, 1)), 0, api.ErrNone}, {then(joined(either(), way(1, 2)), way(0, 2), way(2, 1)), 3, api.OK}, {then(greatest(), way(0, 1), way(1, 2), way(2, 3), way(3, 4)), 3, api.OK},
	} {
		if n, e := drain.Clash(x.d); n != x.want || e != x.e {
			t.Errorf("%d: %b %d", i, n, e)
		}
	}
}

// P7.1 to P7.7, against all truths one by one.
func TestAgainstEachTruth(t *testing.T) {
	for _, d := range smallDrains(1, 2000) {
		checkAll(t, d, learn(d, oneByOne))
	}
	for _, d := range []api.Drain{drainsD(), drainsE(), drainsN(), three(), either(), level(), stairs(5)} {
		checkAll(t, d, learn(d, oneByOne))
	}
}

// P7.1 to P7.7, of drains of any size, against all levels, by which banks yield as little, or as much, as they can.
func TestGreatAgainstEachLevel(t *testing.T) {
	for _, d := range append(anyDrains(2, 3000), greatest(), then(greatest(), way(0, 2), way(1, 2), way(4, 3)), then(greatest(), way(0, 1), way(1, 2), way(2, 3), way(3, 4))) {
		checkAll(t, d, learn(d, utmost))
	}
}

// The two ways of the tests to find what is so agree.
func TestOracles(t *testing.T) {
	for _, d := range smallDrains(3, 500) {
		if a, b := learn(d, oneByOne), learn(d, utmost); a != b {
			t.Errorf("%+v: %+v, %+v", d, a, b)
		}
	}
}

// P7.1 to P7.7, of all drains of some few: between three banks, with two things that were seen.
func TestAllTinyDrains(t *testing.T) {
	ways := []api.DrainWay{way(0, 1), way(1, 2), way(2, 0)}
	for some := range 8 {
		for seen := range 6 {
			for first := range 3 {
				for last := range 3 {
					d := banks(bank(first, first+1, 1, 2), bank(1, 1+last, 0, 1), bank(last, 2, 1, 1))
					for i, w := range ways {
						if some>>i&1 == 1 {
							d = joined(d, w)
						}
					}
					d = under(d, right(0, 1, 1), right(1, 2, seen/2), right(2, 0, 0))
					checkAll(t, d, learn(d, oneByOne))
					w := ways[seen/2]
					d = then(d, way(w.B, w.A), ways[(seen+1)%3])
					checkAll(t, d, learn(d, oneByOne))
				}
			}
		}
	}
}
