package road_test

import (
	"math"
	"reflect"
	"testing"

	"bogworks/api"
	"bogworks/road"
)

// result is all that a call returns.
type result struct {
	a, b int
	w    api.Span
	e    api.Errno
}

// asked is what a call can be asked of beside the road.
type asked struct{ part, event, load int }

// call is a function of the package, of what it is asked, and whether there always is what it returns if there is a truth.
type call struct {
	name                      string
	do                        func(r api.Road, x asked) result
	part, event, load, always bool
}

func calls() []call {
	return []call{
		{"Height", func(r api.Road, x asked) (y result) { y.w, y.e = road.Height(r, x.part, x.event); return y }, true, true, false, true},
		{"Sinks", func(r api.Road, x asked) (y result) { y.w, y.e = road.Sinks(r, x.part, x.load); return y }, true, false, true, true},
		{"Bears", func(r api.Road, x asked) (y result) { y.a, y.e = road.Bears(r, x.load); return y }, false, false, true, true},
		{"Most", func(r api.Road, x asked) (y result) { y.a, y.e = road.Most(r); return y }, false, false, false, false},
		{"Rest", func(r api.Road, x asked) (y result) { y.a, y.e = road.Rest(r, x.load); return y }, false, false, true, false},
		{"Below", func(r api.Road, x asked) (y result) { y.a, y.b, y.e = road.Below(r); return y }, false, false, false, true},
		{"Weak", func(r api.Road, x asked) (y result) { y.a, y.e = road.Weak(r); return y }, false, false, false, true},
		{"Clash", func(r api.Road, x asked) (y result) { y.a, y.e = road.Clash(r); return y }, false, false, false, false},
	}
}

// outside returns spans that are none within two numbers.
func outside(from, to int) []api.Span {
	return []api.Span{
		span(from-1, from), span(from-1, from-1), span(to, to+1), span(to+1, to+1), span(from+1, from), span(to, from),
		span(math.MinInt, math.MaxInt), span(math.MaxInt, math.MinInt), span(math.MinInt, from), span(to, math.MaxInt), span(math.MaxInt, math.MaxInt),
	}
}

// fresh returns a road that shares no memory with another one.
func fresh(r api.Road) api.Road {
	r.Parts = append([]api.RoadPart(nil), r.Parts...)
	return then(r)
}

// spoilt returns roads that are not valid: N, whose looks clash, with one thing wrong.
func spoilt() (list []api.Road) {
	add := func(spoil func(r *api.Road)) {
		r := fresh(roadN())
		spoil(&r)
		list = append(list, r)
	}
	add(func(r *api.Road) { r.Parts = nil })
	add(func(r *api.Road) { r.Parts, r.Events = nil, nil })
	add(func(r *api.Road) { r.Parts, r.Events = []api.RoadPart{}, []api.RoadEvent{} })
	add(func(r *api.Road) { r.Parts = append(r.Parts, r.Parts[0], r.Parts[0], r.Parts[0]) })
	add(func(r *api.Road) { r.Parts = r.Parts[:1] })
	add(func(r *api.Road) { *r = then(*r, r.Events[:3]...); *r = then(*r, r.Events[:4]...) })
	add(func(r *api.Road) { r.Events = make([]api.RoadEvent, 11) })
	for _, n := range []int{-1, 7, 61, math.MinInt, math.MaxInt} {
		add(func(r *api.Road) { r.Parts[1].Full = n })
	}
	for _, w := range append(outside(0, 9), span(6, 9), span(0, 9), span(-2, -1)) {
		add(func(r *api.Road) { r.Parts[1].Height = w })
	}
	for _, w := range append(outside(1, 10), span(1, 4), span(0, 0), span(7, 10)) {
		add(func(r *api.Road) { r.Parts[1].Stiff = w })
	}
	for _, w := range append(outside(0, 5), span(0, 3), span(2, 5)) {
		add(func(r *api.Road) { r.Parts[0].Rise = w })
	}
	for _, n := range []int{-1, 3, math.MinInt, math.MaxInt} {
		add(func(r *api.Road) { r.Events[0].Kind = n })
		add(func(r *api.Road) { r.Events[3].Kind = n })
	}
	for _, w := range append(outside(0, 60), span(0, 3), span(57, 60), span(0, 60)) {
		add(func(r *api.Road) { r.Events[0].Load = w })
	}
	for _, n := range []int{-1, 0, 11, math.MinInt, math.MaxInt} {
		add(func(r *api.Road) { r.Events[1].Days = n })
	}
	for _, n := range []int{-1, 2, 4, math.MinInt, math.MaxInt} {
		add(func(r *api.Road) { r.Events[3].Part = n })
	}
	for _, w := range outside(-1000, 1000) {
		add(func(r *api.Road) { r.Events[2].Shows = w })
	}
	add(func(r *api.Road) { *r = then(*r, pass(0, 2), pass(5, 6), pass(0, 1), pass(59, 60), pass(7, 9)) })
	return append(list, api.Road{})
}

// ErrArg comes first, also where a number is none and the looks clash; with it all else is zero (R1, R2).
func TestErrArg(t *testing.T) {
	for i, r := range spoilt() {
		for _, c := range calls() {
			for _, n := range []int{0, 1, -1, math.MinInt, math.MaxInt} {
				for _, m := range []int{0, 3, 61, math.MinInt} {
					if y := c.do(r, asked{n, m, m}); y != (result{e: api.ErrArg}) {
						t.Error(i, c.name, n, m, y)
					}
				}
			}
		}
	}
}

// odd returns N with anything in the fields of its events that their kind does not use.
func odd() api.Road {
	r := fresh(roadN())
	for _, e := range []*api.RoadEvent{&r.Events[0], &r.Events[1]} {
		e.Part, e.Shows = math.MinInt, span(math.MaxInt, math.MinInt)
	}
	r.Events[0].Days = -1
	for _, e := range []*api.RoadEvent{&r.Events[1], &r.Events[2], &r.Events[3]} {
		e.Load = span(math.MinInt, math.MaxInt)
	}
	r.Events[2].Days, r.Events[3].Days = 11, math.MinInt
	return r
}

// R8: a field that a kind does not use is not looked at; nor is it a load that is not known exactly.
func TestOddFields(t *testing.T) {
	same, other := roadN(), odd()
	for range 2 {
		for _, c := range calls() {
			for part := range 2 {
				for n := range same.Events {
					if y, z := c.do(same, asked{part, n, n}), c.do(other, asked{part, n, n}); y != z {
						t.Error(c.name, part, n, y, z)
					}
				}
			}
		}
		same.Events, other.Events = same.Events[:3], other.Events[:3]
	}
	r := then(odd(), pass(0, 2), pass(5, 6), pass(0, 1), pass(59, 60), pass(7, 7), pass(8, 8))
	if n, e := road.Clash(r); n != 12 || e != api.OK {
		t.Error(n, e)
	}
}

// valids returns roads that are valid, though a thing more or less of one of their fields would not be.
func valids() []api.Road {
	low, ten := one(part(span(0, 2), span(1, 3), span(0, 2), 2)), one(known(5, 1, 1, 5))
	for range api.RoadEvents {
		ten = then(ten, rest(1))
	}
	looks := then(roadR(), look(0, -1000, 1000), look(1, -1000, 8), look(1, 6, 1000), look(0, 9, 1000), look(0, 10, 10), pass(0, 2), pass(58, 60), pass(0, 0))
	return []api.Road{
		roadR(), roadK(), greatest(), turns(), low, ten, looks, one(known(0, 10, 5, 0)), one(known(60, 10, 5, 60)), one(part(span(58, 60), span(8, 10), span(3, 5), 60), pass(60, 60), rest(10)),
		then(roadR(), pass(0, 1), pass(0, 2), pass(59, 60), pass(58, 60), pass(0, 0), pass(60, 60)), {Parts: four(known(1, 1, 1, 1))},
	}
}

// four returns four times the same part.
func four(p api.RoadPart) []api.RoadPart { return []api.RoadPart{p, p, p, p} }

// Of roads that are valid, and have a truth, no call has an error, but that there is no such load, rest or clash.
func TestNoError(t *testing.T) {
	for i, r := range valids() {
		for _, c := range calls() {
			for n := range r.Parts {
				for m := range max(1, len(r.Events)) {
					if c.event && len(r.Events) == 0 {
						continue
					}
					for _, load := range []int{0, 1, 59, 60} {
						y := c.do(r, asked{n, m, load})
						if c.always && y.e != api.OK || !c.always && y.e != api.OK && y != (result{e: api.ErrNone}) || c.name == "Clash" && y.e != api.ErrNone {
							t.Error(i, c.name, n, m, load, y)
						}
					}
				}
			}
		}
	}
}

// ErrRange comes before ErrClash and ErrNone; of what a function is not asked it makes no difference. A road without events has none.
func TestErrRange(t *testing.T) {
	refused := result{e: api.ErrRange}
	for i, r := range append(valids(), roadN(), three()) {
		for _, c := range calls() {
			want := c.do(r, asked{})
			if c.event && len(r.Events) == 0 && want != refused {
				t.Error(i, c.name, want)
			}
			for _, n := range []int{-1, len(r.Parts), math.MinInt, math.MaxInt} {
				if y := c.do(r, asked{part: n}); c.part && y != refused || !c.part && y != want {
					t.Error(i, c.name, n, y)
				}
			}
			for _, n := range []int{-1, len(r.Events), math.MinInt, math.MaxInt} {
				if y := c.do(r, asked{event: n}); c.event && y != refused || !c.event && y != want {
					t.Error(i, c.name, n, y)
				}
			}
			for _, n := range []int{-1, 61, math.MinInt, math.MaxInt} {
				if y := c.do(r, asked{load: n}); c.load && y != refused || !c.load && y != want {
					t.Error(i, c.name, n, y)
				}
			}
		}
	}
}

// ErrClash is that of all functions but Clash, and comes before ErrNone.
func TestErrClash(t *testing.T) {
	great := greatest()
	great.Events[9] = look(2, -1000, -200)
	for i, r := range []api.Road{roadN(), three(), great, one(known(0, 1, 0, 0), pass(1, 1), look(0, 0, 0)), one(known(3, 1, 0, 3), look(0, 4, 1000)), then(turns(), look(1, -9, -1), look(0, -9, -1))} {
		for _, c := range calls() {
			for n := range r.Parts {
				for m := range r.Events {
					for _, load := range []int{0, 60} {
						if y := c.do(r, asked{n, m, load}); c.name != "Clash" && y != (result{e: api.ErrClash}) || c.name == "Clash" && y.e != api.OK {
							t.Error(i, c.name, n, m, load, y)
						}
					}
				}
			}
		}
	}
}

// With ErrNone all else is zero.
func TestErrNone(t *testing.T) {
	r := one(known(0, 1, 0, 0), pass(1, 1))
	if n, e := road.Most(r); n != 0 || e != api.ErrNone {
		t.Error(n, e)
	}
	if n, e := road.Rest(r, 0); n != 0 || e != api.ErrNone {
		t.Error(n, e)
	}
	if n, e := road.Clash(r); n != 0 || e != api.ErrNone {
		t.Error(n, e)
	}
}

// R4: no argument is changed. R3: a nil list is an empty one.
func TestArguments(t *testing.T) {
	empty, none := one(known(5, 2, 1, 9)), one(known(5, 2, 1, 9))
	empty.Events, none.Events = []api.RoadEvent{}, nil
	for _, c := range calls() {
		for _, load := range []int{0, 10, 11} {
			if y, z := c.do(empty, asked{load: load}), c.do(none, asked{load: load}); y != z {
				t.Error(c.name, y, z)
			}
		}
		for _, r := range append(valids(), roadN(), three(), odd()) {
			before := fresh(r)
			c.do(r, asked{0, 0, 20})
			if !reflect.DeepEqual(fresh(r), before) {
				t.Error(c.name, r, before)
			}
		}
	}
}

// R4: what lies behind a list is not changed.
func TestBehindLists(t *testing.T) {
	whole := then(roadN(), look(0, 0, 0), look(1, 6, 9))
	whole.Parts = append(whole.Parts, known(1, 1, 1, 1))
	r := fresh(whole)
	r.Parts, r.Events = r.Parts[:2], r.Events[:4]
	for _, c := range calls() {
		c.do(r, asked{0, 1, 20})
	}
	r.Parts, r.Events = r.Parts[:3], r.Events[:6]
	if !reflect.DeepEqual(r, whole) {
		t.Error(r)
	}
}

// P1: of no road a call panics.
func TestAnyArguments(t *testing.T) {
	numbers := []int{math.MinInt, -1, 0, 1, 2, 60, math.MaxInt}
	for _, x := range numbers {
		for _, y := range numbers {
			r := api.Road{Parts: []api.RoadPart{part(span(x, y), span(y, x), span(x, x), y), known(y, 1, x, y)}, Events: []api.RoadEvent{pass(x, y), rest(x), look(x, y, x), {Kind: y}}}
			some := then(roadR(), pass(y, y), pass(x, y), rest(x), look(0, x, y), look(y, 0, x))
			for _, c := range calls() {
				for _, n := range numbers {
					c.do(r, asked{n, x, y})
					c.do(some, asked{x, n, y})
					c.do(roadN(), asked{x, y, n})
					c.do(roadR(), asked{n, y, x})
				}
			}
		}
	}
}
