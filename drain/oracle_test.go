package drain_test

import (
	"math/bits"
	"math/rand"
	"testing"

	"bogworks/api"
	"bogworks/drain"
)

func span(lo, hi int) api.Span { return api.Span{Lo: lo, Hi: hi} }

func has(w api.Span, n int) bool { return w.Lo <= n && n <= w.Hi }

// bank returns a bank by the ends of its Level and of its Yield.
func bank(low, high, least, most int) api.DrainBank {
	return api.DrainBank{Level: span(low, high), Yield: span(least, most)}
}

func way(a, b int) api.DrainWay { return api.DrainWay{A: a, B: b} }

func right(of, to, most int) api.DrainRight { return api.DrainRight{Of: of, To: to, Most: most} }

// banks returns drains that are only banks.
func banks(list ...api.DrainBank) api.Drain { return api.Drain{Banks: list} }

// joined returns drains with some more of them behind their own.
func joined(d api.Drain, ways ...api.DrainWay) api.Drain {
	d.Drains = append(append([]api.DrainWay(nil), d.Drains...), ways...)
	return d
}

// under returns drains with rights behind their own.
func under(d api.Drain, rights ...api.DrainRight) api.Drain {
	d.Rights = append(append([]api.DrainRight(nil), d.Rights...), rights...)
	return d
}

// then returns drains of which more was seen, behind what was seen before.
func then(d api.Drain, seen ...api.DrainWay) api.Drain {
	d.Seen = append(append([]api.DrainWay(nil), d.Seen...), seen...)
	return d
}

// list is a number for each bank.
type list [api.DrainBanks]int

// truth is how high banks lie, and how much they yield.
type truth struct{ levels, yields list }

// nexts returns where the water of each bank goes next, by the drains that are not in a set.
func nexts(d api.Drain, levels list, stopped int) (to list) {
	nowhere := len(d.Banks)
	for i := range to {
		to[i] = nowhere
	}
	better := func(a, b int) bool {
		return b == nowhere || levels[a] < levels[b] || levels[a] == levels[b] && a < b
	}
	for n, w := range d.Drains {
		if stopped>>n&1 == 1 || levels[w.A] == levels[w.B] {
			continue
		}
		up, down := w.A, w.B
		if levels[up] < levels[down] {
			up, down = down, up
		}
		if better(down, to[up]) {
			to[up] = down
		}
	}
	return to
}

// flows is what goes from each bank straight to each other one, or nowhere, and how much each one has.
type flows struct {
	goes  [api.DrainBanks][api.DrainBanks + 1]int
	water list
	ends  list
}

// goDown lets the yield of each bank go down, bank by bank.
func goDown(d api.Drain, x truth, to list) (f flows) {
	for i := range d.Banks {
		at := i
		f.water[at] += x.yields[i]
		for to[at] != len(d.Banks) {
			f.goes[at][to[at]] += x.yields[i]
			at = to[at]
			f.water[at] += x.yields[i]
		}
		f.ends[i] = at
	}
	return f
}

// broken returns the rights that are broken in a truth, by the drains that are not in a set.
func broken(d api.Drain, x truth, stopped int) (set int) {
	f := goDown(d, x, nexts(d, x.levels, stopped))
	for i, r := range d.Rights {
		if f.goes[r.Of][r.To] > r.Most {
			set |= 1 << i
		}
	}
	return set
}

// rightBy returns which of the things seen are right by levels.
func rightBy(d api.Drain, levels list) (set int) {
	to := nexts(d, levels, 0)
	for i, s := range d.Seen {
		if to[s.A] == s.B {
			set |= 1 << i
		}
	}
	return set
}

// choices calls f with each choice of one integer of each span.
func choices(spans []api.Span, f func(l list)) {
	var l list
	var choose func(i int)
	choose = func(i int) {
		if i == len(spans) {
			f(l)
			return
		}
		for n := spans[i].Lo; n <= spans[i].Hi; n++ {
			l[i] = n
			choose(i + 1)
		}
	}
	choose(0)
}

// levelsOf and yieldsOf return what is known of the banks.
func levelsOf(d api.Drain) (spans []api.Span) {
	for _, b := range d.Banks {
		spans = append(spans, b.Level)
	}
	return spans
}

func yieldsOf(d api.Drain) (spans []api.Span) {
	for _, b := range d.Banks {
		spans = append(spans, b.Yield)
	}
	return spans
}

// oneByOne returns all truths of drains if what was seen, of a set, is right.
func oneByOne(d api.Drain, seen int) (all []truth) {
	choices(levelsOf(d), func(levels list) {
		if seen&^rightBy(d, levels) == 0 {
			choices(yieldsOf(d), func(yields list) { all = append(all, truth{levels, yields}) })
		}
	})
	return all
}

// utmost returns, of all truths, those in which all banks yield as little, or as much, as they can. As more yields more water goes
// each way, these are enough.
func utmost(d api.Drain, seen int) (all []truth) {
	var least, most list
	for i, w := range yieldsOf(d) {
		least[i], most[i] = w.Lo, w.Hi
	}
	choices(levelsOf(d), func(levels list) {
		if seen&^rightBy(d, levels) == 0 {
			all = append(all, truth{levels, least}, truth{levels, most})
		}
	})
	return all
}

// learnt is what all truths leave: whether there is one, where water goes, how much it is, which rights are broken, whether drains may
// be dug, which must be stopped, and the fewest things seen that clash.
type learnt struct {
	truth           bool
	next, ends      list
	water           [api.DrainBanks]api.Span
	goes            [api.DrainBanks][api.DrainBanks]api.Span
	surely, perhaps int
	dig             [api.DrainBanks][api.DrainBanks]int
	many, stop      int
	clash           int
}

func wider(w *api.Span, n int, first bool) {
	if first {
		*w = span(n, n)
	}
	*w = span(min(w.Lo, n), max(w.Hi, n))
}

// add adds a truth.
func (k *learnt) add(d api.Drain, x truth) {
	to := nexts(d, x.levels, 0)
	f := goDown(d, x, to)
	for i := range d.Banks {
		k.next[i] |= 1 << to[i]
		k.ends[i] |= 1 << f.ends[i]
		wider(&k.water[i], f.water[i], !k.truth)
		for j := range d.Banks {
			wider(&k.goes[i][j], f.goes[i][j], !k.truth)
		}
	}
	set := broken(d, x, 0)
	if !k.truth {
		k.surely = set
	}
	k.surely, k.perhaps = k.surely&set, k.perhaps|set
	k.truth = true
}

// mayDig returns whether a drain may be dug.
func mayDig(d api.Drain, all []truth, a, b int) int {
	with := joined(d, way(a, b))
	kept := 0
	for _, x := range all {
		if broken(with, x, 0) == 0 {
			kept++
		}
	}
	switch kept {
	case len(all):
		return api.DrainAlways
	case 0:
		return api.DrainNever
	}
	return api.DrainPerhaps
}

// fewest returns the first set, of those of the fewest elements the least number, of which something is so.
func fewest(of int, so func(set int) bool) (set int, ok bool) {
	for many := range of + 1 {
		for set := range 1 << of {
			if bits.OnesCount(uint(set)) == many && so(set) {
				return set, true
			}
		}
	}
	return 0, false
}

// learn returns what is left by truths that are found in one way.
func learn(d api.Drain, truths func(d api.Drain, seen int) []truth) (k learnt) {
	all := truths(d, 1<<len(d.Seen)-1)
	if len(all) == 0 {
		k.clash, _ = fewest(len(d.Seen), func(set int) bool { return len(truths(d, set)) == 0 })
		return k
	}
	for _, x := range all {
		k.add(d, x)
	}
	for a := range d.Banks {
		for b := range a {
			k.dig[a][b] = mayDig(d, all, a, b)
			k.dig[b][a] = k.dig[a][b]
		}
	}
	k.stop, _ = fewest(len(d.Drains), func(set int) bool {
		for _, x := range all {
			if broken(d, x, set) != 0 {
				return false
			}
		}
		return true
	})
	k.many = bits.OnesCount(uint(k.stop))
	return k
}

// code returns the error of most functions.
func (k learnt) code() api.Errno {
	if k.truth {
		return api.OK
	}
	return api.ErrClash
}

// checkAll compares all that the package returns of valid drains with what their truths leave.
func checkAll(t *testing.T, d api.Drain, k learnt) {
	t.Helper()
	want := k.code()
	for a := range d.Banks {
		if n, e := drain.Next(d, a); n != k.next[a] || e != want {
			t.Errorf("Next %+v, %d: %b %d, want %b %d", d, a, n, e, k.next[a], want)
		}
		if n, e := drain.Ends(d, a); n != k.ends[a] || e != want {
			t.Errorf("Ends %+v, %d: %b %d, want %b %d", d, a, n, e, k.ends[a], want)
		}
		if w, e := drain.Water(d, a); w != k.water[a] || e != want {
			t.Errorf("Water %+v, %d: %v %d, want %v %d", d, a, w, e, k.water[a], want)
		}
		for b := range d.Banks {
			if a != b {
				checkPair(t, d, k, a, b)
			}
		}
	}
	if s, p, e := drain.Breaks(d); s != k.surely || p != k.perhaps || e != want {
		t.Errorf("Breaks %+v: %b %b %d, want %b %b %d", d, s, p, e, k.surely, k.perhaps, want)
	}
	if m, n, e := drain.Stop(d); m != k.many || n != k.stop || e != want {
		t.Errorf("Stop %+v: %d %b %d, want %d %b %d", d, m, n, e, k.many, k.stop, want)
	}
	want = api.ErrNone
	if !k.truth {
		want = api.OK
	}
	if n, e := drain.Clash(d); n != k.clash || e != want {
		t.Errorf("Clash %+v: %b %d, want %b %d", d, n, e, k.clash, want)
	}
}

// checkPair compares what is returned of two banks.
func checkPair(t *testing.T, d api.Drain, k learnt, a, b int) {
	t.Helper()
	want := k.code()
	if w, e := drain.Flow(d, a, b); w != k.goes[a][b] || e != want {
		t.Errorf("Flow %+v, %d, %d: %v %d, want %v %d", d, a, b, w, e, k.goes[a][b], want)
	}
	may := k.dig[a][b]
	if k.truth && len(d.Drains) == api.DrainDrains {
		may, want = 0, api.ErrFull
	}
	if n, e := drain.Dig(d, a, b); n != may || e != want {
		t.Errorf("Dig %+v, %d, %d: %d %d, want %d %d", d, a, b, n, e, may, want)
	}
}

// someSpan returns a span within two numbers, at most so wide.
func someSpan(r *rand.Rand, from, to, wide int) api.Span {
	lo := from + r.Intn(to-from+1)
	return span(lo, min(to, lo+r.Intn(wide+1)))
}

// somePair returns two different banks of at least two.
func somePair(r *rand.Rand, banks int) (a, b int) {
	p := r.Perm(banks)
	return p[0], p[1]
}

// great returns drains of any size, of which nothing was seen; their banks often lie about as high, and their rights often are broken
// in some truths.
func great(r *rand.Rand) (d api.Drain) {
	wide := r.Intn(api.DrainWide + 1)
	high := []int{3, 6, api.DrainLevel}[r.Intn(3)]
	rich := []int{2, 5, api.DrainYield}[r.Intn(3)]
	for range 1 + min(r.Intn(8), api.DrainBanks-1) {
		d.Banks = append(d.Banks, api.DrainBank{Level: someSpan(r, 0, high, wide), Yield: someSpan(r, 0, rich, wide)})
	}
	if len(d.Banks) == 1 {
		return d
	}
	for range min(r.Intn(11), api.DrainDrains) {
		d = joined(d, way(somePair(r, len(d.Banks))))
	}
	for range r.Intn(api.DrainRights + 1) {
		a, b := somePair(r, len(d.Banks))
		if len(d.Drains) > 0 && r.Intn(4) > 0 {
			w := d.Drains[r.Intn(len(d.Drains))]
			if a, b = w.A, w.B; r.Intn(2) == 0 {
				a, b = b, a
			}
		}
		d = under(d, right(a, b, r.Intn([]int{rich + 1, 3*rich + 1, api.DrainMost + 1}[r.Intn(3)])))
	}
	return d
}

// chosen returns one truth of drains, whatever was seen.
func chosen(r *rand.Rand, d api.Drain) (x truth) {
	for i, b := range d.Banks {
		x.levels[i] = b.Level.Lo + r.Intn(b.Level.Hi-b.Level.Lo+1)
		x.yields[i] = b.Yield.Lo + r.Intn(b.Yield.Hi-b.Yield.Lo+1)
	}
	return x
}

// seeMore returns drains of which one thing more was seen that is right in a truth, if there is any.
func seeMore(r *rand.Rand, d api.Drain, x truth) api.Drain {
	a := r.Intn(len(d.Banks))
	if b := nexts(d, x.levels, 0)[a]; b != len(d.Banks) {
		return then(d, way(a, b))
	}
	return d
}

// withSeen returns drains of which up to so many things were seen, which often are right in one truth.
func withSeen(r *rand.Rand, d api.Drain, many int) api.Drain {
	x := chosen(r, d)
	for range r.Intn(many + 1) {
		if r.Intn(2) == 0 {
			x = chosen(r, d)
		}
		if len(d.Banks) > 1 && r.Intn(12) == 0 {
			d = then(d, way(somePair(r, len(d.Banks))))
		} else {
			d = seeMore(r, d, x)
		}
	}
	return d
}

// truths returns how many choices drains leave, whatever was seen.
func truths(d api.Drain) int {
	n := 1
	for _, w := range append(levelsOf(d), yieldsOf(d)...) {
		n *= w.Hi - w.Lo + 1
	}
	return n
}

// anyDrains returns drains of which something was seen, the same in each run.
func anyDrains(seed int64, many int) (all []api.Drain) {
	r := rand.New(rand.NewSource(seed))
	for range many {
		all = append(all, withSeen(r, great(r), api.DrainSeen))
	}
	return all
}

// smallDrains returns drains that leave up to 300 choices, the same in each run.
func smallDrains(seed int64, many int) (all []api.Drain) {
	r := rand.New(rand.NewSource(seed))
	for len(all) < many {
		if d := great(r); truths(d) <= 300 {
			all = append(all, withSeen(r, d, api.DrainSeen))
		}
	}
	return all
}
