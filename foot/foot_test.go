package foot_test

import (
	"reflect"
	"testing"

	"bogworks/api"
	"bogworks/foot"
)

func span(lo, hi int) api.Span { return api.Span{Lo: lo, Hi: hi} }

func by(foot, turn, clamp int) api.FootPlan { return api.FootPlan{foot, turn, clamp} }

func none() api.FootPlan { return by(-1, -1, -1) }

func pile(lo, hi, sods int) api.FootHeap { return api.FootHeap{Wet: span(lo, hi), Sods: sods} }

func lists(p ...api.FootPlan) []api.FootPlan { return p }

// workF and workG are those of the document's examples.
func workF() api.Foot {
	return api.Foot{
		Rain:   []api.Span{span(0, 2), span(1, 3), span(0, 0), span(0, 4), span(0, 1), span(0, 2)},
		Men:    1,
		Limits: [3]int{12, 8, 4},
		Dries:  [3]int{2, 3, 4},
		Heaps:  []api.FootHeap{pile(8, 11, 100), pile(10, 10, 60), pile(30, 31, 40)},
	}
}

func workG() api.Foot { return manned(workF(), 2) }

// manned returns work with another number of men, heaped such with other heaps.
func manned(f api.Foot, men int) api.Foot {
	f.Men = men
	return f
}

func heaped(f api.Foot, heaps ...api.FootHeap) api.Foot {
	f.Heaps = heaps
	return f
}

// dry returns work of so many days without rain, on heaps that are always dry enough for each step.
func dry(days, men int, heaps ...api.FootHeap) api.Foot {
	return api.Foot{Rain: make([]api.Span, days), Men: men, Heaps: heaps}
}

// one returns work on one heap, by some rain, without a step that could not be done.
func one(lo, hi int, dries [3]int, rain ...api.Span) api.Foot {
	return api.Foot{Rain: rain, Men: 1, Limits: [3]int{60, 60, 60}, Dries: dries, Heaps: []api.FootHeap{pile(lo, hi, 1)}}
}

// odd has a heap that dries fastest as it was cut: of its whole plans the first one is not the soonest.
func odd() api.Foot {
	f := one(30, 30, [3]int{10, 0, 5}, make([]api.Span, 8)...)
	f.Limits[2] = 0
	return f
}

// greatest returns the work with the most days, heaps and sods, on which each step can be done on each day.
func greatest(men int) api.Foot {
	f := dry(api.FootDays, men, pile(60, 60, 500), pile(0, 60, 500), pile(0, 0, 500))
	for day := range f.Rain {
		f.Rain[day] = span(0, 10)
	}
	f.Limits, f.Dries = [3]int{60, 60, 60}, [3]int{10, 10, 10}
	return f
}

// P4.1
func TestWet(t *testing.T) {
	rain := one(20, 21, [3]int{1, 2, 4}, span(0, 1), span(3, 3), span(0, 0), span(10, 10))
	low := one(1, 2, [3]int{5, 5, 5}, span(0, 0), span(7, 8), span(0, 4))
	for i, x := range []struct {
		f    api.Foot
		heap int
		plan api.FootPlan
		day  int
		want api.Span
	}{
		{workF(), 0, by(0, 3, 5), 0, span(8, 11)}, {workF(), 0, by(0, 3, 5), 3, span(0, 7)}, {workF(), 0, by(0, 3, 5), 5, span(0, 4)}, {workF(), 0, none(), 1, span(6, 11)},
		{workF(), 0, none(), 2, span(5, 12)}, {workF(), 0, none(), 6, span(0, 11)}, {workF(), 2, none(), 0, span(30, 31)}, {workF(), 1, by(0, -1, -1), 1, span(7, 9)},
		// The day after the last one is their number.
		{workF(), 0, by(0, 3, 5), 6, span(0, 4)}, {rain, 0, none(), 4, span(29, 31)}, {rain, 0, by(0, 1, -1), 4, span(19, 21)}, {dry(1, 0, pile(3, 4, 0)), 0, none(), 1, span(3, 4)},
		// A step counts on its own day, and not before.
		{rain, 0, none(), 1, span(19, 21)}, {rain, 0, by(0, -1, -1), 1, span(18, 20)}, {rain, 0, by(1, -1, -1), 1, span(19, 21)}, {rain, 0, by(1, -1, -1), 2, span(20, 22)},
		{rain, 0, by(0, 1, -1), 2, span(17, 19)}, {rain, 0, by(0, 2, -1), 2, span(19, 21)}, {rain, 0, by(0, 2, -1), 3, span(15, 17)}, {rain, 0, by(3, -1, -1), 4, span(28, 30)},
		// A heap that was clamped stays as wet as it was, whatever it rains; it does not dry on that day.
		{rain, 0, by(0, 1, 2), 2, span(17, 19)}, {rain, 0, by(0, 1, 2), 3, span(17, 19)}, {rain, 0, by(0, 1, 2), 4, span(17, 19)}, {rain, 0, by(1, 2, 3), 3, span(16, 18)}, {rain, 0, by(1, 2, 3), 4, span(16, 18)},
		// It is never less wet than 0, and what would be less is lost; it can be wetter than FootMost.
		{low, 0, none(), 1, span(0, 0)}, {low, 0, none(), 2, span(2, 3)}, {low, 0, none(), 3, span(0, 2)}, {one(60, 60, [3]int{}, span(10, 10)), 0, none(), 1, span(70, 70)},
		{one(5, 5, [3]int{6, 0, 0}, span(1, 1)), 0, none(), 1, span(0, 0)}, {one(5, 5, [3]int{6, 0, 0}, span(2, 2)), 0, none(), 1, span(1, 1)},
		// Whether the plan can be kept is not looked at.
		{workF(), 2, by(0, 1, 2), 2, span(24, 29)}, {workF(), 2, by(0, 1, 2), 6, span(24, 29)}, {manned(workF(), 0), 0, by(0, 3, 5), 3, span(0, 7)},
		{greatest(3), 1, none(), 8, span(0, 60)}, {greatest(3), 0, none(), 8, span(0, 60)}, {greatest(3), 0, by(0, 1, 2), 8, span(40, 60)},
	} {
		if w, e := foot.Wet(x.f, x.heap, x.plan, x.day); w != x.want || e != api.OK {
			t.Error(i, w, e)
		}
	}
}

// P4.2
func TestCan(t *testing.T) {
	limited := func(lo, hi, limit int) api.Foot {
		f := one(lo, hi, [3]int{2, 3, 5}, span(0, 0), span(1, 2), span(0, 0))
		f.Limits = [3]int{limit, limit, limit}
		return f
	}
	for i, x := range []struct {
		f    api.Foot
		heap int
		plan api.FootPlan
		want int
	}{
		{workF(), 0, by(0, 3, 5), api.FootAlways}, {workF(), 0, by(0, 2, 4), api.FootPerhaps}, {workF(), 2, by(0, 3, 5), api.FootNever},
		{workF(), 1, by(0, 3, 5), api.FootAlways}, {workF(), 0, by(0, 1, 2), api.FootPerhaps}, {manned(workF(), 0), 0, by(0, 3, 5), api.FootAlways},
		// A plan without steps can be kept; of one that is not whole the steps that are done count alone.
		{workF(), 2, none(), api.FootAlways}, {workF(), 0, by(0, -1, -1), api.FootAlways}, {workF(), 2, by(0, -1, -1), api.FootNever}, {workF(), 0, by(0, 2, -1), api.FootPerhaps}, {workF(), 0, by(0, 3, -1), api.FootAlways},
		// A step can be done at the limit, and not above.
		{limited(9, 9, 9), 0, by(0, -1, -1), api.FootAlways}, {limited(9, 10, 9), 0, by(0, -1, -1), api.FootPerhaps}, {limited(10, 10, 9), 0, by(0, -1, -1), api.FootNever}, {limited(0, 9, 9), 0, by(0, -1, -1), api.FootAlways},
		{limited(11, 11, 9), 0, by(1, -1, -1), api.FootAlways}, {limited(11, 12, 9), 0, by(1, -1, -1), api.FootPerhaps}, {limited(12, 13, 9), 0, by(1, -1, -1), api.FootNever},
		{limited(11, 11, 9), 0, by(1, 2, -1), api.FootAlways}, {limited(11, 11, 9), 0, by(0, 1, -1), api.FootNever}, {limited(60, 60, 60), 0, by(0, 1, 2), api.FootAlways}, {limited(0, 0, 0), 0, by(0, 1, 2), api.FootAlways},
		{limited(4, 9, 0), 0, by(2, -1, -1), api.FootNever}, {limited(3, 3, 0), 0, by(2, -1, -1), api.FootPerhaps}, {limited(2, 2, 0), 0, by(2, -1, -1), api.FootAlways},
		// Each step has its own limit.
		{api.Foot{Rain: make([]api.Span, 3), Limits: [3]int{5, 4, 3}, Heaps: []api.FootHeap{pile(5, 5, 1)}}, 0, by(0, -1, -1), api.FootAlways}, {api.Foot{Rain: make([]api.Span, 3), Limits: [3]int{5, 4, 5}, Heaps: []api.FootHeap{pile(5, 5, 1)}}, 0, by(0, 1, -1), api.FootNever},
		{api.Foot{Rain: make([]api.Span, 3), Limits: [3]int{5, 5, 4}, Heaps: []api.FootHeap{pile(5, 5, 1)}}, 0, by(0, 1, -1), api.FootAlways}, {api.Foot{Rain: make([]api.Span, 3), Limits: [3]int{5, 5, 4}, Heaps: []api.FootHeap{pile(5, 5, 1)}}, 0, by(0, 1, 2), api.FootNever},
	} {
		if n, e := foot.Can(x.f, x.heap, x.plan); n != x.want || e != api.OK {
			t.Error(i, n, e)
		}
	}
}

// P4.3
func TestSoonest(t *testing.T) {
	wet := one(10, 10, [3]int{1, 1, 1}, make([]api.Span, 5)...)
	wet.Limits = [3]int{10, 10, 6}
	perhaps := one(5, 6, [3]int{}, make([]api.Span, 3)...)
	perhaps.Limits[0] = 5
	for i, x := range []struct {
		f    api.Foot
		heap int
		want api.FootPlan
		e    api.Errno
	}{
		{workF(), 0, by(0, 3, 5), api.OK}, {workF(), 1, by(0, 3, 5), api.OK}, {workF(), 2, api.FootPlan{}, api.ErrNone}, {manned(workF(), 0), 1, by(0, 3, 5), api.OK},
		// The earliest day of the last step counts, and of several plans the first one.
		{odd(), 0, by(2, 3, 5), api.OK}, {wet, 0, by(0, 1, 4), api.OK}, {greatest(0), 0, by(0, 1, 2), api.OK}, {dry(3, 0, pile(0, 0, 0)), 0, by(0, 1, 2), api.OK},
		// A whole plan needs three days, and has to be kept surely.
		{dry(2, 3, pile(0, 0, 1)), 0, api.FootPlan{}, api.ErrNone}, {dry(1, 3, pile(0, 0, 1)), 0, api.FootPlan{}, api.ErrNone}, {perhaps, 0, api.FootPlan{}, api.ErrNone},
	} {
		if p, e := foot.Soonest(x.f, x.heap); p != x.want || e != x.e {
			t.Error(i, p, e)
		}
	}
}

// P4.4
func TestClamped(t *testing.T) {
	perhaps := one(5, 6, [3]int{}, make([]api.Span, 3)...)
	perhaps.Limits[1] = 5
	perhaps.Heaps = append(perhaps.Heaps, pile(6, 7, 1), pile(0, 5, 1))
	last := one(1, 1, [3]int{}, span(0, 0), span(0, 1), span(10, 10))
	last.Limits[2] = 1
	for i, x := range []struct {
		f               api.Foot
		surely, perhaps int
	}{
		{workF(), 3, 3}, {manned(workF(), 0), 3, 3}, {greatest(0), 7, 7}, {odd(), 1, 1}, {perhaps, 4, 5}, {last, 0, 1},
		{heaped(workF(), pile(30, 31, 500), pile(8, 20, 0), pile(8, 11, 0)), 4, 6}, {heaped(workF()), 0, 0}, {dry(2, 3, pile(0, 0, 1)), 0, 0}, {dry(3, 3, pile(0, 0, 1)), 1, 1},
	} {
		if m, n, e := foot.Clamped(x.f); m != x.surely || n != x.perhaps || e != api.OK {
			t.Error(i, m, n, e)
		}
	}
}

// early has a heap that can be footed on the day 3 only if it was footed, or turned, before.
func early() api.Foot {
	f := one(20, 20, [3]int{0, 10, 10}, make([]api.Span, 5)...)
	f.Limits = [3]int{10, 60, 60}
	return f
}

// P4.5
func TestBroken(t *testing.T) {
	wet := heaped(dry(5, 1), pile(0, 0, 1), pile(5, 5, 1), pile(0, 1, 1))
	for i, x := range []struct {
		f                api.Foot
		plans            []api.FootPlan
		heap, step, rule int
		e                api.Errno
	}{
		{workF(), lists(by(0, 3, 5), by(0, 3, 5), none()), 1, 0, api.FootMen, api.OK}, {workF(), lists(by(0, 2, 5), none(), none()), 0, 1, api.FootWet, api.OK}, {workF(), lists(none(), by(3, 3, 5), none()), 1, 1, api.FootOrder, api.OK},
		{workG(), lists(by(0, 3, 5), by(0, 3, 5), none()), 0, 0, 0, api.ErrNone}, {workF(), lists(none(), none(), none()), 0, 0, 0, api.ErrNone}, {heaped(workF()), nil, 0, 0, 0, api.ErrNone}, {workF(), lists(by(0, 3, 5), none(), none()), 0, 0, 0, api.ErrNone},
		// A step that is not done breaks no rule, but one after it does.
		{dry(5, 1, pile(0, 0, 1)), lists(by(-1, 2, -1)), 0, 1, api.FootOrder, api.OK}, {dry(5, 1, pile(0, 0, 1)), lists(by(-1, -1, 2)), 0, 2, api.FootOrder, api.OK}, {dry(5, 1, pile(0, 0, 1)), lists(by(0, -1, 2)), 0, 2, api.FootOrder, api.OK},
		{dry(5, 1, pile(0, 0, 1)), lists(by(2, 1, -1)), 0, 1, api.FootOrder, api.OK}, {dry(5, 1, pile(0, 0, 1)), lists(by(1, 2, 2)), 0, 2, api.FootOrder, api.OK}, {dry(5, 1, pile(0, 0, 1)), lists(by(1, 3, 2)), 0, 2, api.FootOrder, api.OK},
		{dry(5, 1, pile(0, 0, 1)), lists(by(4, -1, -1)), 0, 0, 0, api.ErrNone}, {dry(5, 1, pile(0, 0, 1)), lists(by(0, 4, -1)), 0, 0, 0, api.ErrNone}, {dry(5, 1, pile(0, 0, 1)), lists(by(1, 3, 4)), 0, 0, 0, api.ErrNone},
		// No later step is looked at, also if it comes earlier.
		{early(), lists(by(3, 1, -1)), 0, 0, api.FootWet, api.OK}, {early(), lists(by(3, -1, 1)), 0, 0, api.FootWet, api.OK}, {early(), lists(by(3, 4, -1)), 0, 0, api.FootWet, api.OK},
		// Of the rules that a step breaks the first one is meant: out of order, too wet, no man.
		{manned(wet, 0), lists(by(0, -1, -1), none(), none()), 0, 0, api.FootMen, api.OK}, {manned(wet, 0), lists(none(), by(0, -1, -1), none()), 1, 0, api.FootWet, api.OK}, {manned(wet, 0), lists(none(), by(-1, 0, -1), none()), 1, 1, api.FootOrder, api.OK},
		{wet, lists(by(0, -1, -1), none(), by(0, -1, -1)), 2, 0, api.FootWet, api.OK}, {wet, lists(by(0, -1, -1), none(), by(-1, 0, -1)), 2, 1, api.FootOrder, api.OK}, {manned(wet, 0), lists(none(), none(), none()), 0, 0, 0, api.ErrNone},
		// The first heap is meant, and of its steps the first one.
		{wet, lists(by(1, 1, 0), by(0, -1, -1), by(-1, -1, 0)), 0, 1, api.FootOrder, api.OK}, {wet, lists(none(), by(2, 1, 0), by(-1, -1, 0)), 1, 0, api.FootWet, api.OK}, {manned(wet, 0), lists(by(0, 0, 0), by(0, -1, -1), none()), 0, 0, api.FootMen, api.OK},
		// Steps of all kinds need men, also of plans that are not whole; only those of heaps with lesser numbers count.
		{manned(greatest(1), 1), lists(by(0, 2, 4), by(1, 3, 5), by(4, -1, -1)), 2, 0, api.FootMen, api.OK}, {greatest(1), lists(by(0, 2, 4), by(1, 3, 5), by(6, 7, -1)), 0, 0, 0, api.ErrNone}, {greatest(1), lists(by(0, -1, -1), none(), by(0, 1, 2)), 2, 0, api.FootMen, api.OK},
		{greatest(1), lists(by(3, 4, -1), by(2, 4, 5), none()), 1, 1, api.FootMen, api.OK}, {greatest(2), lists(by(3, 4, 5), by(2, 4, 5), by(3, 5, 7)), 2, 1, api.FootMen, api.OK}, {greatest(2), lists(by(3, 4, 5), by(2, 4, 5), by(3, 6, 7)), 0, 0, 0, api.ErrNone},
		{greatest(3), lists(by(0, 1, 2), by(0, 1, 2), by(0, 1, 2)), 0, 0, 0, api.ErrNone}, {greatest(2), lists(by(0, 1, 2), by(0, 1, 2), by(0, 1, 2)), 2, 0, api.FootMen, api.OK},
	} {
		if h, s, r, e := foot.Broken(x.f, x.plans); h != x.heap || s != x.step || r != x.rule || e != x.e {
			t.Error(i, h, s, r, e)
		}
	}
}

// P4.6, P5
func TestBest(t *testing.T) {
	for i, x := range []struct {
		f    api.Foot
		sods int
		want []api.FootPlan
	}{
		{workF(), 100, lists(by(0, 3, 5), none(), none())}, {workG(), 160, lists(by(0, 3, 5), by(0, 3, 5), none())}, {manned(workF(), 3), 160, lists(by(0, 3, 5), by(0, 3, 5), none())},
		{heaped(workF()), 0, nil}, {manned(workF(), 0), 0, lists(none(), none(), none())}, {dry(2, 3, pile(0, 0, 1)), 0, lists(none())},
		// Of several plans the first ones are meant: those without steps, but also those that begin early, not those that end early.
		{dry(3, 1, pile(0, 0, 7), pile(0, 0, 7)), 7, lists(none(), by(0, 1, 2))}, {dry(3, 1, pile(0, 0, 7), pile(0, 0, 8), pile(0, 0, 7)), 8, lists(none(), by(0, 1, 2), none())}, {dry(3, 1, pile(0, 0, 8), pile(0, 0, 7)), 8, lists(by(0, 1, 2), none())},
		{odd(), 1, lists(by(0, 1, 7))}, {dry(6, 1, pile(0, 0, 1), pile(0, 0, 1)), 2, lists(by(0, 1, 2), by(3, 4, 5))},
		// A heap without sods need not be clamped.
		{dry(8, 3, pile(0, 0, 0)), 0, lists(none())}, {dry(8, 1, pile(0, 0, 0), pile(0, 0, 3), pile(0, 0, 0)), 3, lists(none(), by(0, 1, 2), none())},
		// The first heap makes room for others, and two little ones can be more than one.
		{heaped(workF(), pile(8, 11, 100), pile(10, 10, 101)), 101, lists(none(), by(0, 3, 5))}, {dry(8, 1, pile(0, 0, 5), pile(0, 0, 9), pile(0, 0, 5)), 14, lists(none(), by(0, 1, 2), by(3, 4, 5))},
		{greatest(0), 0, lists(none(), none(), none())}, {greatest(1), 1000, lists(none(), by(0, 1, 2), by(3, 4, 5))}, {greatest(2), 1500, lists(by(0, 1, 2), by(0, 1, 2), by(3, 4, 5))}, {greatest(3), 1500, lists(by(0, 1, 2), by(0, 1, 2), by(0, 1, 2))},
		{squeezed(), 2, lists(by(0, 1, 5), by(2, 3, 4))},
	} {
		n, plans, e := foot.Best(x.f)
		if n != x.sods || len(plans) != len(x.want) || len(plans) > 0 && !reflect.DeepEqual(plans, x.want) || e != api.OK {
			t.Error(i, n, plans, e)
		}
	}
}

// squeezed has two heaps and one man; the heap 1 can be clamped by the day 4 only, so that the heap 0 cannot have its first plan.
func squeezed() api.Foot {
	f := dry(6, 1, pile(0, 0, 1), pile(30, 30, 1))
	f.Rain[4] = span(10, 10)
	f.Limits = [3]int{60, 60, 30}
	return f
}

// P4.7
func TestMen(t *testing.T) {
	for i, x := range []struct {
		f         api.Foot
		men, sods int
	}{
		{workF(), 2, 160}, {workG(), 2, 160}, {manned(workF(), 0), 2, 160}, {manned(workF(), 3), 2, 160},
		{heaped(workF()), 0, 0}, {heaped(workF(), pile(8, 11, 0)), 0, 0}, {heaped(workF(), pile(30, 31, 40)), 0, 0}, {heaped(workF(), pile(30, 31, 40), pile(8, 11, 100)), 1, 100},
		{dry(2, 3, pile(0, 0, 1)), 0, 0}, {dry(3, 0, pile(0, 0, 1), pile(0, 0, 1), pile(0, 0, 1)), 3, 3}, {dry(5, 0, pile(0, 0, 1), pile(0, 0, 1), pile(0, 0, 1)), 2, 3}, {dry(4, 0, pile(0, 0, 1), pile(0, 0, 1), pile(0, 0, 1)), 3, 3},
		{dry(6, 0, pile(0, 0, 1), pile(0, 0, 1)), 1, 2}, {dry(5, 0, pile(0, 0, 1), pile(0, 0, 1)), 2, 2}, {greatest(0), 2, 1500}, {greatest(3), 2, 1500}, {dry(8, 0, pile(0, 0, 1), pile(0, 0, 0), pile(0, 0, 1)), 1, 2},
	} {
		if m, n, e := foot.Men(x.f); m != x.men || n != x.sods || e != api.OK {
			t.Error(i, m, n, e)
		}
	}
}

// P4.1 to P4.7, against all truths one by one.
func TestAgainstEachTruth(t *testing.T) {
	for _, f := range append(smallWorks(1, 600), workF(), workG()) {
		checkTruths(t, f)
		checkAll(t, f)
	}
}

// P4.1 to P4.7, of works of any size, against each wetness that heaps can have.
func TestGreatAgainstEachWetness(t *testing.T) {
	for _, f := range append(greatWorks(2, 150), odd(), early(), squeezed(), greatest(1), greatest(2)) {
		checkAll(t, f)
	}
}
