package foot_test

import (
	"math"
	"reflect"
	"testing"

	"bogworks/api"
	"bogworks/foot"
)

// result is all that a call returns.
type result struct {
	a, b, c int
	w       api.Span
	p       api.FootPlan
	plans   []api.FootPlan
	e       api.Errno
}

func (r result) is(s result) bool {
	if len(r.plans) == 0 && len(s.plans) == 0 {
		r.plans, s.plans = nil, nil
	}
	return reflect.DeepEqual(r, s)
}

// asked is what a call can be asked of beside the work.
type asked struct {
	heap, day int
	plan      api.FootPlan
	plans     []api.FootPlan
}

// call is a function of the package, and of what it is asked.
type call struct {
	name                   string
	do                     func(f api.Foot, x asked) result
	heap, day, plan, plans bool
}

func calls() []call {
	return []call{
		{"Wet", func(f api.Foot, x asked) (r result) { r.w, r.e = foot.Wet(f, x.heap, x.plan, x.day); return r }, true, true, true, false},
		{"Can", func(f api.Foot, x asked) (r result) { r.a, r.e = foot.Can(f, x.heap, x.plan); return r }, true, false, true, false},
		{"Soonest", func(f api.Foot, x asked) (r result) { r.p, r.e = foot.Soonest(f, x.heap); return r }, true, false, false, false},
		{"Clamped", func(f api.Foot, x asked) (r result) { r.a, r.b, r.e = foot.Clamped(f); return r }, false, false, false, false},
		{"Broken", func(f api.Foot, x asked) (r result) { r.a, r.b, r.c, r.e = foot.Broken(f, x.plans); return r }, false, false, false, true},
		{"Best", func(f api.Foot, x asked) (r result) { r.a, r.plans, r.e = foot.Best(f); return r }, false, false, false, false},
		{"Men", func(f api.Foot, x asked) (r result) { r.a, r.b, r.e = foot.Men(f); return r }, false, false, false, false},
	}
}

// right returns what each call can be asked of work.
func right(f api.Foot) asked {
	x := asked{plan: none()}
	for range f.Heaps {
		x.plans = append(x.plans, none())
	}
	return x
}

// outside returns spans that are none within 0 and a number.
func outside(to int) []api.Span {
	return []api.Span{
		span(-1, 0), span(-1, -1), span(to, to+1), span(to+1, to+1), span(1, 0), span(to, 0), span(0, to+1), span(-1, to),
		span(math.MinInt, math.MaxInt), span(math.MaxInt, math.MinInt), span(math.MinInt, 0), span(to, math.MaxInt), span(math.MaxInt, math.MaxInt),
	}
}

// fresh returns work that shares no memory with other work.
func fresh(f api.Foot) api.Foot {
	f.Rain = append([]api.Span(nil), f.Rain...)
	f.Heaps = append([]api.FootHeap(nil), f.Heaps...)
	return f
}

// spoilt returns work that is not valid: F with one thing wrong.
func spoilt() (list []api.Foot) {
	add := func(spoil func(f *api.Foot)) {
		f := fresh(workF())
		spoil(&f)
		list = append(list, f)
	}
	add(func(f *api.Foot) { f.Rain = nil })
	add(func(f *api.Foot) { f.Rain = []api.Span{} })
	add(func(f *api.Foot) { f.Rain, f.Heaps = nil, nil })
	add(func(f *api.Foot) { f.Rain = make([]api.Span, 9) })
	add(func(f *api.Foot) { f.Heaps = append(f.Heaps, f.Heaps[0]) })
	add(func(f *api.Foot) { f.Heaps = make([]api.FootHeap, 4) })
	for _, n := range []int{-1, 4, math.MinInt, math.MaxInt} {
		add(func(f *api.Foot) { f.Men = n })
	}
	for i := range 3 {
		for _, n := range []int{-1, 61, math.MinInt, math.MaxInt} {
			add(func(f *api.Foot) { f.Limits[i] = n })
		}
		for _, n := range []int{-1, 11, math.MinInt, math.MaxInt} {
			add(func(f *api.Foot) { f.Dries[i] = n })
		}
		for _, n := range []int{-1, 501, math.MinInt, math.MaxInt} {
			add(func(f *api.Foot) { f.Heaps[i].Sods = n })
		}
		for _, w := range outside(60) {
			add(func(f *api.Foot) { f.Heaps[i].Wet = w })
		}
		for _, w := range outside(10) {
			add(func(f *api.Foot) { f.Rain[2*i] = w })
		}
	}
	return append(list, api.Foot{})
}

// ErrArg comes first, also where what is asked is none; with it all else is zero (R1, R2).
func TestErrArg(t *testing.T) {
	for i, f := range spoilt() {
		for _, c := range calls() {
			for _, n := range []int{0, 1, -1, 9, math.MinInt, math.MaxInt} {
				for _, p := range []api.FootPlan{none(), by(0, 1, 2), by(2, 1, 0), by(n, n, n)} {
					for _, plans := range [][]api.FootPlan{nil, lists(p), lists(p, p, p)} {
						if r := c.do(f, asked{n, n, p, plans}); !r.is(result{e: api.ErrArg}) {
							t.Error(i, c.name, n, p, r)
						}
					}
				}
			}
		}
	}
}

// valids returns work that is valid, though a thing more or less of one of its fields would not be.
func valids() []api.Foot {
	full := greatest(3)
	for day := range full.Rain {
		full.Rain[day] = span(10, 10)
	}
	return []api.Foot{
		workF(), workG(), full, greatest(0), greatest(3), odd(), dry(1, 0), dry(1, 3, pile(0, 0, 0)), dry(8, 0), one(0, 60, [3]int{0, 10, 0}, span(0, 10)),
		heaped(workF(), pile(60, 60, 500), pile(0, 0, 0), pile(0, 60, 500)),
	}
}

// Of valid work nothing else than that there is none is an error, if what is asked is right.
func TestNoError(t *testing.T) {
	for i, f := range valids() {
		for _, c := range calls() {
			x := right(f)
			for x.heap = range f.Heaps {
				for x.day = 0; x.day <= len(f.Rain); x.day++ {
					for _, x.plan = range plans(len(f.Rain)) {
						if r := c.do(f, x); r.e != api.OK && (c.name != "Soonest" && c.name != "Broken" || !r.is(result{e: api.ErrNone})) {
							t.Fatal(i, c.name, x, r)
						}
						if !c.plan {
							break
						}
					}
				}
			}
		}
	}
}

// notInOrder returns plans that are not in order, of so many days.
func notInOrder(days int) []api.FootPlan {
	return []api.FootPlan{
		by(-1, 1, -1), by(-1, -1, 2), by(0, -1, 2), by(-1, 1, 2), by(1, 0, -1), by(0, 0, -1), by(0, 2, 1), by(0, 1, 1), by(0, 1, 0), by(2, 1, 0), by(1, 1, 1),
		by(days, -1, -1), by(0, days, -1), by(0, 1, days), by(days, days+1, days+2), by(-2, -1, -1), by(0, -2, -1), by(0, 1, -2), by(-2, 0, 1), by(-3, -2, -1), by(-2, -2, -2),
		by(math.MinInt, -1, -1), by(math.MaxInt, -1, -1), by(0, math.MaxInt, -1), by(0, math.MinInt, -1), by(0, 1, math.MaxInt), by(0, 1, math.MinInt), by(math.MinInt, 0, 1),
	}
}

// ErrRange is that of a heap, a plan or a day that is none, and of what a function is not asked it makes no difference.
func TestErrRange(t *testing.T) {
	for i, f := range valids() {
		for _, c := range calls() {
			good := right(f)
			if len(f.Heaps) == 0 && c.heap {
				continue
			}
			want := c.do(f, good)
			check := func(none bool, x asked) {
				if r := c.do(f, x); none && !r.is(result{e: api.ErrRange}) || !none && !r.is(want) {
					t.Error(i, c.name, x, r)
				}
			}
			for _, n := range []int{-1, len(f.Heaps), math.MinInt, math.MaxInt} {
				x := good
				x.heap = n
				check(c.heap, x)
			}
			for _, n := range []int{-1, len(f.Rain) + 1, math.MinInt, math.MaxInt} {
				x := good
				x.day = n
				check(c.day, x)
			}
			for _, p := range notInOrder(len(f.Rain)) {
				x := good
				x.plan = p
				check(c.plan, x)
			}
		}
	}
}

// ErrRange is that of a heap that is none, if there are none at all.
func TestErrRangeNoHeaps(t *testing.T) {
	for _, c := range calls() {
		if r := c.do(heaped(workF()), asked{plan: none()}); c.heap && !r.is(result{e: api.ErrRange}) || !c.heap && r.e == api.ErrRange {
			t.Error(c.name, r)
		}
	}
}

// ErrRange is that of a list of plans that has not as many as there are heaps, or a number that is none; of one that is not in order it is not.
func TestErrRangePlans(t *testing.T) {
	for i, f := range valids() {
		few := right(f).plans
		if len(few) > 0 {
			few = few[1:]
		} else {
			few = lists(none())
		}
		for _, list := range [][]api.FootPlan{few, append(right(f).plans, none()), append(right(f).plans, lists(none(), none(), none(), none())...)} {
			if h, s, r, e := foot.Broken(f, list); h != 0 || s != 0 || r != 0 || e != api.ErrRange {
				t.Error(i, list, h, s, r, e)
			}
		}
		for heap := range f.Heaps {
			for step := range 3 {
				for _, n := range []int{-2, len(f.Rain), math.MinInt, math.MaxInt, 0, len(f.Rain) - 1, -1} {
					list := right(f).plans
					list[0] = by(0, 0, 0) // It breaks a rule, but that is not looked at yet.
					list[heap][step] = n
					_, _, _, e := foot.Broken(f, list)
					if bad := n < -1 || n >= len(f.Rain); bad != (e == api.ErrRange) {
						t.Error(i, list, e)
					}
				}
			}
		}
	}
}

// R2: with ErrNone all else is zero.
func TestErrNone(t *testing.T) {
	if p, e := foot.Soonest(workF(), 2); p != (api.FootPlan{}) || e != api.ErrNone {
		t.Error(p, e)
	}
	if h, s, r, e := foot.Broken(workF(), lists(none(), by(0, 3, 5), none())); h != 0 || s != 0 || r != 0 || e != api.ErrNone {
		t.Error(h, s, r, e)
	}
}

// R3: a nil list is an empty one.
func TestNil(t *testing.T) {
	f, g := heaped(workF()), workF()
	g.Heaps = []api.FootHeap{}
	for _, c := range calls() {
		for _, plans := range [][]api.FootPlan{nil, {}} {
			x := asked{plan: none(), plans: plans}
			if r, s := c.do(f, x), c.do(g, x); !r.is(s) || !c.heap && r.e != api.OK && c.name != "Broken" {
				t.Error(c.name, r, s)
			}
		}
	}
	if h, s, r, e := foot.Broken(g, []api.FootPlan{}); h != 0 || s != 0 || r != 0 || e != api.ErrNone {
		t.Error(h, s, r, e)
	}
}

// P4.8, R4: no argument is changed, nor what lies behind a list.
func TestArguments(t *testing.T) {
	for _, f := range valids() {
		all := fresh(f)
		all.Rain = append(all.Rain, span(7, 7), span(8, 8))
		all.Heaps = append(all.Heaps, pile(7, 7, 7), pile(8, 8, 8))
		behind := lists(none(), by(0, 1, 2), by(0, 1, 2), by(2, 1, 0), by(5, 5, 5))
		before, plans := fresh(all), append([]api.FootPlan(nil), behind...)
		g := f
		g.Rain, g.Heaps = all.Rain[:len(f.Rain)], all.Heaps[:len(f.Heaps)]
		for _, c := range calls() {
			c.do(g, asked{plan: none(), plans: behind[:len(f.Heaps)]})
			if !reflect.DeepEqual(all, before) || !reflect.DeepEqual(behind, plans) {
				t.Fatal(c.name, all, behind)
			}
		}
	}
}

// P4.8, R4: the plans that are returned are new; to change them changes no others.
func TestNewResults(t *testing.T) {
	_, list, _ := foot.Best(workG())
	_, other, _ := foot.Best(workG())
	for i := range list {
		list[i] = by(9, 9, 9)
	}
	_ = append(list[:1], by(8, 8, 8))
	_, after, _ := foot.Best(workG())
	want := lists(by(0, 3, 5), by(0, 3, 5), none())
	if !reflect.DeepEqual(other, want) || !reflect.DeepEqual(after, want) {
		t.Error(other, after)
	}
}

// P1: of no work, and asked whatever, a call panics.
func TestAnyArguments(t *testing.T) {
	numbers := []int{math.MinInt, -1, 0, 1, 3, 60, math.MaxInt}
	for _, x := range numbers {
		for _, y := range numbers {
			bad := api.Foot{Rain: []api.Span{span(x, y), span(y, x)}, Men: x, Limits: [3]int{x, y, x}, Dries: [3]int{y, x, y}, Heaps: []api.FootHeap{pile(x, y, y), pile(0, y, x)}}
			for _, c := range calls() {
				for _, n := range numbers {
					for _, f := range []api.Foot{bad, workF(), heaped(workF()), greatest(1)} {
						c.do(f, asked{n, x, by(n, x, y), lists(by(x, y, n), by(y, n, x), by(n, x, y))})
						c.do(f, asked{0, n, by(x, y, n), lists(by(x, y, n), by(n, n, n))})
						c.do(f, asked{n, y, none(), nil})
					}
				}
			}
		}
	}
}
