package road_test

import (
	"testing"

	"bogworks/api"
	"bogworks/road"
)

// roadR, roadK and roadN are those of the document's examples.
func roadR() api.Road {
	return api.Road{
		Parts:  []api.RoadPart{part(span(10, 11), span(2, 2), span(1, 1), 12), part(span(8, 8), span(3, 4), span(0, 1), 9)},
		Events: []api.RoadEvent{pass(6, 6), rest(2)},
	}
}

func roadK() api.Road { return then(roadR(), look(1, 7, 9)) }

func roadN() api.Road { return then(roadK(), look(1, 6, 6)) }

// greatest returns the greatest road that is valid, without looks.
func greatest() (r api.Road) {
	for range api.RoadParts {
		r.Parts = append(r.Parts, part(span(58, 60), span(1, 3), span(3, 5), 60))
	}
	return then(r, pass(58, 60), rest(10), pass(0, 2), pass(60, 60), rest(1), pass(30, 32), pass(7, 9), pass(60, 60), rest(10), pass(1, 1))
}

// turns has a part that can be below the water only if the first load was 6, and one that can be so only if it was 7; one of them
// is after the event 2.
func turns() api.Road {
	return api.Road{
		Parts:  []api.RoadPart{part(span(10, 10), span(2, 3), span(0, 0), 10), known(21, 1, 0, 21)},
		Events: []api.RoadEvent{pass(6, 7), look(0, 7, 7), pass(15, 15)},
	}
}

// three has three looks, the events 0, 2 and 3, of which any two can be right.
func three() api.Road {
	return api.Road{
		Parts:  []api.RoadPart{part(span(10, 11), span(1, 1), span(0, 0), 12), known(5, 1, 0, 5)},
		Events: []api.RoadEvent{look(0, 11, 12), pass(0, 1), look(0, 0, 10), look(1, 5, 5)},
	}
}

// P5.1
func TestHeight(t *testing.T) {
	deep := one(known(0, 1, 0, 0))
	for range api.RoadEvents {
		deep = then(deep, pass(60, 60))
	}
	for i, x := range []struct {
		r           api.Road
		part, event int
		want        api.Span
	}{
		{roadR(), 0, 0, span(7, 8)}, {roadR(), 0, 1, span(9, 10)}, {roadR(), 1, 0, span(6, 6)}, {roadR(), 1, 1, span(6, 8)}, {roadK(), 1, 1, span(8, 8)},
		// At a look a part stays, and the others, too; a later look tells of earlier events.
		{roadK(), 1, 2, span(8, 8)}, {roadK(), 0, 2, span(9, 10)}, {then(roadR(), look(0, 10, 60)), 0, 0, span(8, 8)},
		// The load divided by the stiffness is rounded up.
		{one(known(20, 3, 0, 20), pass(0, 0)), 0, 0, span(20, 20)}, {one(known(20, 3, 0, 20), pass(1, 1)), 0, 0, span(19, 19)},
		{one(known(20, 3, 0, 20), pass(3, 3)), 0, 0, span(19, 19)}, {one(known(20, 3, 0, 20), pass(4, 4)), 0, 0, span(18, 18)},
		{one(known(20, 10, 0, 20), pass(60, 60)), 0, 0, span(14, 14)}, {one(known(20, 1, 0, 20), pass(60, 60)), 0, 0, span(-40, -40)},
		// In a rest a part rises each day, to Full and not above; what is lost there is not had later.
		{one(known(20, 1, 3, 60), rest(4)), 0, 0, span(32, 32)}, {one(known(20, 1, 5, 30), rest(2)), 0, 0, span(30, 30)}, {one(known(20, 1, 5, 29), rest(2)), 0, 0, span(29, 29)},
		{one(known(20, 1, 5, 60), rest(10)), 0, 0, span(60, 60)}, {one(known(20, 1, 0, 60), rest(10)), 0, 0, span(20, 20)}, {one(known(7, 1, 5, 7), rest(1)), 0, 0, span(7, 7)},
		{one(known(20, 1, 5, 22), rest(1), pass(2, 2)), 0, 1, span(20, 20)}, {one(known(1, 1, 4, 9), pass(6, 6), rest(2)), 0, 1, span(3, 3)},
		// Each load is one number for all parts, and known better by looks at any of them.
		{turns(), 0, 0, span(7, 7)}, {turns(), 1, 0, span(14, 15)}, {turns(), 0, 2, span(-1, 2)}, {turns(), 1, 2, span(-1, 0)},
		{then(turns(), look(0, -1, -1)), 1, 2, span(0, 0)}, {then(turns(), look(1, -5, -1)), 0, 2, span(2, 2)}, {then(turns(), look(0, -1, -1)), 1, 0, span(15, 15)},
		// A stiffness and a rise are the same ones all the time.
		{one(part(span(20, 20), span(1, 2), span(0, 0), 20), pass(6, 6), pass(6, 6), look(0, 9, 20)), 0, 0, span(17, 17)},
		{one(part(span(0, 0), span(1, 1), span(0, 2), 60), rest(1), look(0, 0, 1), rest(3)), 0, 2, span(0, 4)},
		{deep, 0, 9, span(-600, -600)}, {deep, 0, 0, span(-60, -60)},
		{greatest(), 3, 0, span(-2, 40)}, {greatest(), 0, 1, span(28, 60)}, {one(known(0, 10, 0, 0), rest(1)), 0, 0, span(0, 0)},
	} {
		if w, e := road.Height(x.r, x.part, x.event); w != x.want || e != api.OK {
			t.Error(i, w, e)
		}
	}
}

// P5.2
func TestSinks(t *testing.T) {
	for i, x := range []struct {
		r          api.Road
		part, load int
		want       api.Span
	}{
		{roadR(), 0, 5, span(3, 3)}, {roadR(), 1, 8, span(2, 3)}, {roadR(), 0, 0, span(0, 0)}, {roadR(), 1, 60, span(15, 20)}, {roadR(), 1, 1, span(1, 1)}, {roadR(), 1, 9, span(3, 3)},
		{roadR(), 1, 7, span(2, 3)}, {roadR(), 1, 4, span(1, 2)},
		// Looks at a part tell how stiff it is, and others how heavy loads were.
		{one(part(span(20, 20), span(1, 3), span(0, 0), 20), pass(12, 12), look(0, 14, 15)), 0, 12, span(6, 6)}, {one(part(span(20, 20), span(1, 3), span(0, 0), 20), pass(12, 12), look(0, 14, 16)), 0, 12, span(4, 6)},
		{turns(), 0, 15, span(5, 8)}, {then(turns(), look(1, 0, 0)), 0, 15, span(8, 8)}, {then(turns(), look(1, -1, -1)), 0, 15, span(5, 5)},
		{greatest(), 0, 60, span(20, 60)}, {one(known(60, 10, 0, 60)), 0, 60, span(6, 6)}, {one(known(0, 10, 0, 0)), 0, 51, span(6, 6)},
	} {
		if w, e := road.Sinks(x.r, x.part, x.load); w != x.want || e != api.OK {
			t.Error(i, w, e)
		}
	}
}

// P5.3, P7
func TestBears(t *testing.T) {
	for i, x := range []struct {
		r          api.Road
		load, want int
	}{
		{roadR(), 18, api.RoadAlways}, {roadR(), 20, api.RoadPerhaps}, {roadR(), 24, api.RoadNever},
		{roadR(), 19, api.RoadPerhaps}, {roadR(), 21, api.RoadNever}, {roadR(), 0, api.RoadAlways}, {roadR(), 60, api.RoadNever},
		{roadK(), 18, api.RoadAlways}, {roadK(), 20, api.RoadPerhaps}, {then(roadR(), look(0, 10, 10), look(1, 8, 8)), 20, api.RoadAlways}, {then(roadR(), look(0, 9, 9)), 20, api.RoadNever},
		// A height of 0 is not below the water.
		{one(known(5, 1, 0, 5)), 5, api.RoadAlways}, {one(known(5, 1, 0, 5)), 6, api.RoadNever}, {one(known(0, 10, 0, 0)), 0, api.RoadAlways}, {one(known(0, 10, 0, 0)), 1, api.RoadNever},
		// A road that is below the water bears no load, not even none; one that has risen again does.
		{one(known(0, 1, 1, 0), pass(1, 1)), 0, api.RoadNever}, {one(known(0, 1, 1, 0), pass(0, 1)), 0, api.RoadPerhaps}, {one(known(1, 1, 1, 1), pass(2, 2), rest(2)), 1, api.RoadAlways},
		// Each part can bear it, but never all of them.
		{one(turns().Parts[0], turns().Events[:2]...), 15, api.RoadPerhaps}, {api.Road{Parts: turns().Parts, Events: turns().Events[:2]}, 15, api.RoadNever}, {api.Road{Parts: turns().Parts, Events: turns().Events[:2]}, 14, api.RoadAlways},
		{greatest(), 0, api.RoadPerhaps}, {greatest(), 60, api.RoadPerhaps}, {one(known(60, 1, 0, 60)), 60, api.RoadAlways},
	} {
		if n, e := road.Bears(x.r, x.load); n != x.want || e != api.OK {
			t.Error(i, n, e)
		}
	}
}

// P5.4, P7
func TestMost(t *testing.T) {
	for i, x := range []struct {
		r    api.Road
		want int
		e    api.Errno
	}{
		{roadR(), 18, api.OK}, {roadK(), 18, api.OK}, {then(roadR(), look(0, 10, 10), look(1, 8, 8)), 20, api.OK}, {then(roadK(), look(1, 8, 8)), 18, api.OK},
		{one(known(5, 3, 0, 5)), 15, api.OK}, {one(part(span(5, 6), span(3, 4), span(0, 0), 6)), 15, api.OK},
		{one(known(0, 1, 0, 0)), 0, api.OK}, {one(known(0, 1, 0, 0), pass(0, 1)), 0, api.ErrNone}, {one(known(0, 1, 0, 0), pass(1, 1)), 0, api.ErrNone},
		{one(known(59, 1, 0, 60)), 59, api.OK}, {one(known(60, 1, 0, 60)), 60, api.OK}, {one(known(60, 10, 0, 60)), 60, api.OK},
		{api.Road{Parts: turns().Parts, Events: turns().Events[:2]}, 14, api.OK}, {turns(), 0, api.ErrNone}, {greatest(), 0, api.ErrNone},
	} {
		if n, e := road.Most(x.r); n != x.want || e != x.e {
			t.Error(i, n, e)
		}
	}
}

// P5.5, P7
func TestRest(t *testing.T) {
	for i, x := range []struct {
		r          api.Road
		load, want int
		e          api.Errno
	}{
		{roadR(), 18, 0, api.OK}, {roadR(), 20, 0, api.ErrNone}, {roadK(), 20, 1, api.OK}, {roadK(), 18, 0, api.OK}, {roadK(), 27, 0, api.ErrNone}, {roadK(), 24, 3, api.OK},
		{one(known(0, 1, 1, 60)), 10, 10, api.OK}, {one(known(0, 1, 1, 60)), 11, 0, api.ErrNone}, {one(known(0, 1, 1, 9)), 9, 9, api.OK}, {one(known(0, 1, 1, 9)), 10, 0, api.ErrNone},
		{one(known(0, 1, 0, 60)), 1, 0, api.ErrNone}, {one(known(0, 1, 0, 60)), 0, 0, api.OK}, {one(known(2, 1, 3, 60)), 6, 2, api.OK}, {one(known(2, 1, 3, 60)), 5, 1, api.OK},
		{one(known(0, 1, 2, 0), pass(3, 3)), 0, 2, api.OK}, {one(known(0, 1, 2, 0), pass(3, 3)), 1, 0, api.ErrNone}, {one(part(span(0, 2), span(1, 1), span(1, 3), 20)), 3, 3, api.OK},
		{greatest(), 60, 0, api.ErrNone}, {one(greatest().Parts[0], pass(60, 60)), 28, 10, api.OK}, {one(greatest().Parts[0], pass(60, 60)), 29, 0, api.ErrNone}, {one(greatest().Parts[0], pass(60, 60)), 4, 2, api.OK},
	} {
		if n, e := road.Rest(x.r, x.load); n != x.want || e != x.e {
			t.Error(i, n, e)
		}
	}
}

// P5.6
func TestBelow(t *testing.T) {
	for i, x := range []struct {
		r               api.Road
		surely, perhaps int
	}{
		{roadR(), 0, 0}, {roadK(), 0, 0}, {then(roadR(), pass(18, 18), rest(1)), 0, 0}, {then(roadR(), pass(19, 19), rest(1)), 0, 12}, {then(roadR(), pass(19, 19), look(1, -1, 5), rest(1), look(1, 0, 9)), 0, 12}, {then(roadR(), pass(21, 21), rest(2)), 4, 12}, {then(roadR(), pass(24, 24), look(1, -9, 9)), 12, 12},
		{one(known(1, 1, 1, 1), pass(1, 1), pass(1, 1), rest(1)), 2, 2}, {one(known(0, 1, 0, 0)), 0, 0}, {one(known(0, 1, 0, 0), pass(0, 1), look(0, -1, -1)), 3, 3}, {one(known(0, 1, 0, 0), pass(0, 1), look(0, 0, 5)), 0, 0},
		// In each truth some part is, but not in each the same one.
		{turns(), 4, 4}, {then(turns(), look(1, 0, 0)), 12, 12}, {one(turns().Parts[0], turns().Events...), 0, 4},
		{one(known(0, 10, 5, 0), pass(1, 1), rest(10), pass(60, 60), rest(1), rest(1), pass(0, 0), pass(1, 2), look(0, -1000, 1000), rest(1), pass(10, 10)), 0b1011001101, 0b1011001101},
	} {
		if s, p, e := road.Below(x.r); s != x.surely || p != x.perhaps || e != api.OK {
			t.Error(i, s, p, e)
		}
	}
}

// P5.7
func TestWeak(t *testing.T) {
	same := api.Road{Parts: []api.RoadPart{known(5, 1, 0, 9), known(5, 2, 0, 9), known(5, 3, 0, 9), known(4, 9, 5, 9)}}
	for i, x := range []struct {
		r    api.Road
		want int
	}{
		{roadR(), 1}, {roadK(), 1}, {then(roadR(), look(1, 8, 60)), 1}, {then(roadK(), pass(20, 20)), 0}, {then(roadR(), rest(10)), 1},
		// Of several the first one is meant.
		{same, 3}, {then(same, rest(1)), 0}, {then(same, rest(1), pass(1, 1)), 0}, {then(same, rest(1), pass(2, 2)), 0}, {api.Road{Parts: same.Parts[1:3]}, 0}, {api.Road{Parts: same.Parts[1:3], Events: []api.RoadEvent{pass(2, 2)}}, 0},
		{api.Road{Parts: []api.RoadPart{known(5, 3, 0, 9), known(5, 2, 0, 9), known(5, 2, 1, 9)}, Events: []api.RoadEvent{pass(3, 3)}}, 1}, {greatest(), 0}, {one(known(0, 1, 0, 0)), 0},
		// The least height that can be is meant, and not the greatest; that without loads is that at first.
		{api.Road{Parts: []api.RoadPart{known(4, 1, 0, 9), part(span(3, 5), span(1, 1), span(0, 0), 9)}}, 1}, {api.Road{Parts: []api.RoadPart{known(4, 1, 0, 9), part(span(3, 5), span(1, 1), span(0, 0), 9)}, Events: []api.RoadEvent{look(1, 4, 5)}}, 0},
		{turns(), 0}, {then(turns(), look(0, 0, 9)), 1},
	} {
		if n, e := road.Weak(x.r); n != x.want || e != api.OK {
			t.Error(i, n, e)
		}
	}
}

// P5.8, P4
func TestClash(t *testing.T) {
	for i, x := range []struct {
		r    api.Road
		want int
		e    api.Errno
	}{
		{roadN(), 12, api.OK}, {roadK(), 0, api.ErrNone}, {roadR(), 0, api.ErrNone}, {greatest(), 0, api.ErrNone}, {turns(), 0, api.ErrNone},
		// The fewest looks come before the least number, and of several sets the least number is meant.
		{three(), 0b1101, api.OK}, {then(three(), look(0, 9, 9)), 0b10001, api.OK}, {then(roadN(), look(0, 0, 5)), 0b10000, api.OK}, {then(roadN(), look(1, 6, 6)), 0b1100, api.OK}, {then(roadN(), look(0, 0, 5), look(0, 11, 60)), 0b10000, api.OK},
		{inserted(roadN(), 0, look(1, 8, 8)), 0b11000, api.OK}, {inserted(roadN(), 0, look(1, 9, 9)), 1, api.OK}, {inserted(roadN(), 1, look(1, -1000, 5)), 2, api.OK},
		// Of one part on one day what all looks leave is so; between two heights there can be none.
		{one(part(span(10, 12), span(1, 1), span(0, 0), 12), look(0, 0, 11), look(0, 11, 60)), 0, api.ErrNone}, {one(part(span(10, 12), span(1, 1), span(0, 0), 12), look(0, 0, 10), look(0, 11, 60)), 3, api.OK},
		{one(part(span(20, 20), span(1, 2), span(0, 0), 20), pass(10, 10), look(0, 11, 14)), 2, api.OK}, {one(part(span(20, 20), span(1, 2), span(0, 0), 20), pass(10, 10), look(0, 11, 15)), 0, api.ErrNone},
		// Looks at two parts clash by one load.
		{then(turns(), look(0, -1, -1), look(1, -1, -1)), 0b11000, api.OK}, {then(turns(), look(0, -1, -1), look(1, 0, 0)), 0, api.ErrNone},
	} {
		if n, e := road.Clash(x.r); n != x.want || e != x.e {
			t.Error(i, n, e)
		}
	}
}

// P5.1 to P5.8, against all truths one by one.
func TestAgainstEachTruth(t *testing.T) {
	for _, r := range smallRoads(1, 2000) {
		checkAll(t, r)
	}
	for _, r := range []api.Road{roadR(), roadK(), roadN(), turns(), three(), then(roadN(), look(0, 0, 5))} {
		checkAll(t, r)
	}
}

// P5.1 to P5.8, of roads of any size.
func TestGreatAgainstEachTruth(t *testing.T) {
	g := greatest()
	g.Parts = g.Parts[:2]
	for _, r := range append(roads(2, 20, 2000, 60000), g) {
		checkAll(t, r)
	}
}

// P5.1 to P5.8, of all roads of some few: one part, a load, a look, a rest, and a load.
func TestAllTinyRoads(t *testing.T) {
	for _, full := range []int{0, 3} {
		for _, height := range []api.Span{span(0, 0), span(max(0, full-1), full)} {
			for stiff := 1; stiff <= 3; stiff++ {
				for rise := range 3 {
					for load := range 5 {
						p := part(height, span(stiff, stiff+load%2), span(rise, rise+1), full)
						r := one(p, pass(load, load+1), look(0, 0, 0), rest(2), pass(load/2, load/2))
						for n := -load - 2; n <= full; n++ {
							r.Events[1].Shows = span(n, n)
							checkAll(t, r)
						}
					}
				}
			}
		}
	}
}
