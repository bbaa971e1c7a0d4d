package foot_test

import (
	"math/rand"
	"reflect"
	"slices"
	"testing"

	"bogworks/api"
	"bogworks/foot"
)

// never is the number that stands for a day that there is not; it is later than all others.
const never = api.FootDays + 1

// answers is all that the package returns of work: of each heap by each plan in order, and of all heaps together.
type answers struct {
	wet             [][][]api.Span
	can             [][]int
	soonest         []api.FootPlan
	clamp           []int
	surely, perhaps int
	sods, men, all  int
	plans           []api.FootPlan
}

// ask returns the answers.
func ask(t *testing.T, f api.Foot) (a answers) {
	t.Helper()
	need := func(e api.Errno) {
		if e != api.OK {
			t.Fatalf("%+v: %d", f, e)
		}
	}
	var e api.Errno
	for i := range f.Heaps {
		var wet [][]api.Span
		var can []int
		for _, p := range plans(len(f.Rain)) {
			var days []api.Span
			for day := 0; day <= len(f.Rain); day++ {
				w, e := foot.Wet(f, i, p, day)
				need(e)
				days = append(days, w)
			}
			n, e := foot.Can(f, i, p)
			need(e)
			wet, can = append(wet, days), append(can, n)
		}
		a.wet, a.can = append(a.wet, wet), append(a.can, can)
		p, e := foot.Soonest(f, i)
		last := p[2]
		if e == api.ErrNone {
			last = never
		} else {
			need(e)
		}
		a.soonest, a.clamp = append(a.soonest, p), append(a.clamp, last)
	}
	a.surely, a.perhaps, e = foot.Clamped(f)
	need(e)
	a.sods, a.plans, e = foot.Best(f)
	need(e)
	a.men, a.all, e = foot.Men(f)
	need(e)
	return a
}

// chosen returns how wet each heap is in the beginning, and how much it rains each day, in one truth.
func chosen(r *rand.Rand, f api.Foot) (first, rain []int) {
	pick := func(w api.Span) int { return w.Lo + r.Intn(w.Hi-w.Lo+1) }
	for _, h := range f.Heaps {
		first = append(first, pick(h.Wet))
	}
	for _, w := range f.Rain {
		rain = append(rain, pick(w))
	}
	return first, rain
}

// P4.9, P2, P6: whatever is true, a heap is as wet as is returned, and each plan can be kept, or not, that always can be, or never.
func TestWhatIsTrue(t *testing.T) {
	r := rand.New(rand.NewSource(3))
	for _, f := range append(greatWorks(4, 300), workF(), greatest(3)) {
		a := ask(t, f)
		first, rain := chosen(r, f)
		for i := range f.Heaps {
			for j, p := range plans(len(f.Rain)) {
				w := wets(f, p, first[i], rain)
				for day, n := range w {
					if !has(a.wet[i][j][day], n) {
						t.Errorf("%+v: %d by %v is %d on %d", f, i, p, n, day)
					}
				}
				kept := keeps(f, p, w)
				if kept && a.can[i][j] == api.FootNever || !kept && a.can[i][j] == api.FootAlways {
					t.Errorf("%+v: %d by %v: %v, %d", f, i, p, kept, a.can[i][j])
				}
				if kept && whole(p) && a.perhaps>>i&1 == 0 {
					t.Errorf("%+v: %d is clamped by %v", f, i, p)
				}
			}
		}
	}
}

// P4.9, P5: whatever is true, each step of the best plans can be done on its day, with the men that there are, and the sods are clamped.
func TestBestPlansAreKept(t *testing.T) {
	r := rand.New(rand.NewSource(5))
	some := 0
	for _, f := range append(greatWorks(6, 3000), workF(), workG(), greatest(2)) {
		sods, list, e := foot.Best(f)
		if e != api.OK || len(list) != len(f.Heaps) {
			t.Fatalf("%+v: %v %d", f, list, e)
		}
		clamped := 0
		busy := make([]int, len(f.Rain))
		for i, p := range list {
			add(busy, p, 1)
			if whole(p) {
				clamped += f.Heaps[i].Sods
			}
			for range 20 {
				first, rain := chosen(r, f)
				if !ordered(p, len(f.Rain)) || !keeps(f, p, wets(f, p, first[i], rain)) {
					t.Errorf("%+v: %d cannot be done by %v in %v", f, i, p, rain)
				}
			}
		}
		if clamped != sods || slices.Max(busy) > f.Men {
			t.Errorf("%+v: %v: %d sods, want %d; steps %v", f, list, clamped, sods, busy)
		}
		if sods > 0 {
			some++
		}
	}
	if some < 500 {
		t.Error(some)
	}
}

// P5, P4.9: of the plans that Broken finds right none clamp more sods than the best ones.
func TestNoPlansAreBetter(t *testing.T) {
	r := rand.New(rand.NewSource(7))
	passed := 0
	for _, f := range greatWorks(8, 400) {
		sods, _, _ := foot.Best(f)
		suit := dryEnough(f)
		for range 100 {
			clamped := 0
			list := make([]api.FootPlan, len(f.Heaps))
			for i := range list {
				list[i] = suit[i][r.Intn(len(suit[i]))]
				if whole(list[i]) {
					clamped += f.Heaps[i].Sods
				}
			}
			if _, _, _, e := foot.Broken(f, list); e == api.ErrNone {
				passed++
				if clamped > sods {
					t.Errorf("%+v: %v clamp %d, not %d", f, list, clamped, sods)
				}
			}
		}
	}
	if passed < 1000 {
		t.Error(passed)
	}
}

// What is returned of one call agrees with what is returned of others.
func TestTogether(t *testing.T) {
	for _, f := range append(greatWorks(10, 300), workF(), workG(), odd(), squeezed()) {
		a := ask(t, f)
		all := 0
		for i, h := range f.Heaps {
			surely, perhaps := false, false
			for j, p := range plans(len(f.Rain)) {
				surely = surely || whole(p) && a.can[i][j] == api.FootAlways
				perhaps = perhaps || whole(p) && a.can[i][j] != api.FootNever
			}
			if surely != (a.surely>>i&1 == 1) || perhaps != (a.perhaps>>i&1 == 1) || surely != (a.clamp[i] != never) {
				t.Errorf("%+v: %d: %v %v, %d %d %d", f, i, surely, perhaps, a.surely, a.perhaps, a.clamp[i])
			}
			if surely {
				all += h.Sods
			}
			if n, e := foot.Can(f, i, a.soonest[i]); surely && (n != api.FootAlways || e != api.OK) {
				t.Errorf("%+v: %d by %v: %d %d", f, i, a.soonest[i], n, e)
			}
		}
		if a.all != all || a.sods > all || (a.men <= f.Men) != (a.sods == all) {
			t.Errorf("%+v: %d of %d sods, all are %d by %d men", f, a.sods, all, a.all, a.men)
		}
	}
}

// notLess checks that where more is known, or work is easier, no heap is later, no fewer sods are clamped, and no plan is less sure.
func notLess(t *testing.T, f, g api.Foot, a, b answers) {
	t.Helper()
	for i := range a.can {
		for j := range a.can[i] {
			if b.can[i][j] < a.can[i][j] {
				t.Errorf("%+v, %+v: %d by %v: %d, then %d", f, g, i, plans(len(f.Rain))[j], a.can[i][j], b.can[i][j])
			}
			for day, w := range b.wet[i][j] {
				if w.Hi > a.wet[i][j][day].Hi {
					t.Errorf("%+v, %+v: %d by %v: %v, then %v", f, g, i, plans(len(f.Rain))[j], a.wet[i][j][day], w)
				}
			}
		}
		if b.clamp[i] > a.clamp[i] {
			t.Errorf("%+v, %+v: %d by %d, then by %d", f, g, i, a.clamp[i], b.clamp[i])
		}
	}
	if b.sods < a.sods || b.all < a.all || a.surely&^b.surely != 0 || a.perhaps&^b.perhaps != 0 {
		t.Errorf("%+v, %+v: %+v, then %+v", f, g, a, b)
	}
}

// lower returns a span that ends no higher, and begins no higher.
func lower(r *rand.Rand, w api.Span) api.Span {
	lo := r.Intn(w.Lo + 1)
	return span(lo, lo+r.Intn(w.Hi-lo+1))
}

// P4.9: with less rain no fewer sods are clamped, and no heap later.
func TestLessRain(t *testing.T) {
	r := rand.New(rand.NewSource(11))
	for _, f := range greatWorks(12, 400) {
		g := fresh(f)
		day := r.Intn(len(f.Rain))
		g.Rain[day] = lower(r, f.Rain[day])
		notLess(t, f, g, ask(t, f), ask(t, g))
	}
}

// P4.9: with drier heaps no fewer sods are clamped, and no heap later.
func TestDrierHeap(t *testing.T) {
	r := rand.New(rand.NewSource(13))
	for _, f := range greatWorks(14, 400) {
		if len(f.Heaps) == 0 {
			continue
		}
		g := fresh(f)
		i := r.Intn(len(f.Heaps))
		g.Heaps[i].Wet = lower(r, f.Heaps[i].Wet)
		notLess(t, f, g, ask(t, f), ask(t, g))
	}
}

// P4.9: with more men no fewer sods are clamped; all else is the same.
func TestMoreMen(t *testing.T) {
	more := 0
	for _, f := range append(greatWorks(16, 200), workF(), dry(3, 0, pile(0, 0, 1), pile(0, 0, 2), pile(0, 0, 3))) {
		last := ask(t, manned(f, 0))
		if last.sods != 0 {
			t.Errorf("%+v: %d sods without men", f, last.sods)
		}
		for men := 1; men <= api.FootHeaps; men++ {
			a := ask(t, manned(f, men))
			if a.sods < last.sods || men >= a.men && a.sods != a.all || men < a.men && a.sods >= a.all {
				t.Errorf("%+v: %d sods by %d men, then %d; %d by %d", f, last.sods, men-1, a.sods, a.all, a.men)
			}
			if a.sods > last.sods && men > 1 {
				more++
			}
			last.sods, last.plans = a.sods, a.plans
			if !reflect.DeepEqual(a, last) {
				t.Errorf("%+v: %d men: %+v, %+v", f, men, last, a)
			}
		}
	}
	if more < 10 {
		t.Error(more)
	}
}

// narrow returns a span within another one.
func narrow(r *rand.Rand, w api.Span) api.Span {
	w.Lo += r.Intn(w.Hi - w.Lo + 1)
	w.Hi -= r.Intn(w.Hi - w.Lo + 1)
	return w
}

// P2: where more is known nothing is returned less exactly.
func TestMoreKnown(t *testing.T) {
	r := rand.New(rand.NewSource(17))
	for _, f := range greatWorks(18, 400) {
		g := fresh(f)
		for day, w := range f.Rain {
			g.Rain[day] = narrow(r, w)
		}
		for i, h := range f.Heaps {
			g.Heaps[i].Wet = narrow(r, h.Wet)
		}
		a, b := ask(t, f), ask(t, g)
		for i := range a.wet {
			for j := range a.wet[i] {
				for day, w := range a.wet[i][j] {
					if v := b.wet[i][j][day]; v.Lo < w.Lo || v.Hi > w.Hi {
						t.Errorf("%+v, %+v: %d: %v, then %v", f, g, i, w, v)
					}
				}
				if n := a.can[i][j]; n != api.FootPerhaps && n != b.can[i][j] {
					t.Errorf("%+v, %+v: %d: %d, then %d", f, g, i, n, b.can[i][j])
				}
			}
			if b.clamp[i] > a.clamp[i] {
				t.Errorf("%+v, %+v: %d by %d, then by %d", f, g, i, a.clamp[i], b.clamp[i])
			}
		}
		if a.surely&^b.surely != 0 || b.perhaps&^a.perhaps != 0 || b.sods < a.sods || b.all < a.all {
			t.Errorf("%+v, %+v: %+v, then %+v", f, g, a, b)
		}
	}
}

// P4.9: of a heap alone the same is returned as of it among others.
func TestAlone(t *testing.T) {
	for _, f := range greatWorks(20, 300) {
		a := ask(t, f)
		for i, h := range f.Heaps {
			b := ask(t, heaped(f, h))
			if !reflect.DeepEqual(a.wet[i], b.wet[0]) || !reflect.DeepEqual(a.can[i], b.can[0]) || a.soonest[i] != b.soonest[0] || a.surely>>i&1 != b.surely || a.perhaps>>i&1 != b.perhaps {
				t.Errorf("%+v: %d: %+v, %+v", f, i, a, b)
			}
		}
	}
}

// P11, P4.9: the order of heaps makes no difference but to their numbers, and to which of several best plans are the first.
func TestOrderOfHeaps(t *testing.T) {
	r := rand.New(rand.NewSource(21))
	for _, f := range append(greatWorks(22, 400), workF(), workG(), squeezed()) {
		order := r.Perm(len(f.Heaps))
		g := fresh(f)
		for i, at := range order {
			g.Heaps[at] = f.Heaps[i]
		}
		a, b := ask(t, f), ask(t, g)
		if a.sods != b.sods || a.men != b.men || a.all != b.all {
			t.Errorf("%+v, %+v: %+v, %+v", f, g, a, b)
		}
		for i, at := range order {
			if !reflect.DeepEqual(a.wet[i], b.wet[at]) || !reflect.DeepEqual(a.can[i], b.can[at]) || a.soonest[i] != b.soonest[at] || a.surely>>i&1 != b.surely>>at&1 || a.perhaps>>i&1 != b.perhaps>>at&1 {
				t.Errorf("%+v, %+v: %d, %d: %+v, %+v", f, g, i, at, a, b)
			}
		}
	}
}

// P11: a call that is made again returns the same.
func TestAgain(t *testing.T) {
	for _, f := range append(greatWorks(24, 100), workF(), greatest(1), greatest(2)) {
		if a, b := ask(t, f), ask(t, fresh(f)); !reflect.DeepEqual(a, b) {
			t.Errorf("%+v: %+v, %+v", f, a, b)
		}
	}
}
