package drain_test

import (
	"math/bits"
	"math/rand"
	"testing"

	"bogworks/api"
	"bogworks/drain"
)

// answers is all that the package returns of drains, but for which drains must be stopped and which things seen clash; and how few these
// are. What is returned of a bank that there is not is as in the answers of any other drains; that a drain cannot be dug since there are
// too many is a number of its own.
type answers struct {
	next, ends      list
	water           [api.DrainBanks]api.Span
	goes            [api.DrainBanks][api.DrainBanks]api.Span
	surely, perhaps int
	dig             [api.DrainBanks][api.DrainBanks]int
	many, few       int
}

const tooMany = -1

// asker asks of drains, and notes whether there is a truth.
type asker struct {
	t  *testing.T
	d  api.Drain
	ok bool
}

func (q *asker) keep(e api.Errno) {
	if e != api.OK && e != api.ErrClash {
		q.t.Fatalf("%+v: %d", q.d, e)
	}
	q.ok = q.ok && e == api.OK
}

// dig returns what Dig does.
func (q *asker) dig(a, b int) int {
	n, e := drain.Dig(q.d, a, b)
	if e == api.ErrFull {
		return tooMany
	}
	q.keep(e)
	return n
}

// ask returns the answers, and whether there is a truth.
func ask(t *testing.T, d api.Drain) (x answers, ok bool) {
	t.Helper()
	q := asker{t, d, true}
	var e api.Errno
	for a := range d.Banks {
		x.next[a], e = drain.Next(d, a)
		q.keep(e)
		x.ends[a], e = drain.Ends(d, a)
		q.keep(e)
		x.water[a], e = drain.Water(d, a)
		q.keep(e)
		for b := range d.Banks {
			if a == b {
				continue
			}
			x.goes[a][b], e = drain.Flow(d, a, b)
			q.keep(e)
			x.dig[a][b] = q.dig(a, b)
		}
	}
	x.surely, x.perhaps, e = drain.Breaks(d)
	q.keep(e)
	var set int
	x.many, set, e = drain.Stop(d)
	q.keep(e)
	in, e := drain.Clash(d)
	x.few = bits.OnesCount(uint(in))
	if (e == api.OK) == q.ok || (e == api.ErrNone) != q.ok || in >= 1<<len(d.Seen) || set >= 1<<len(d.Drains) || x.many != bits.OnesCount(uint(set)) {
		t.Fatalf("%+v: %d clash, %d, %b stopped, and there is a truth: %v", d, in, e, set, q.ok)
	}
	return x, q.ok
}

// P7.8, P2, P8: whatever is true, if what was seen is right, what is returned contains it.
func TestWhatIsTrue(t *testing.T) {
	r := rand.New(rand.NewSource(4))
	broke := 0
	for range 2000 {
		d := great(r)
		x := chosen(r, d)
		for range r.Intn(api.DrainSeen + 1) {
			d = seeMore(r, d, x)
		}
		k, ok := ask(t, d)
		if !ok || k.few != 0 {
			t.Fatalf("%+v: no truth, though there is %v", d, x)
		}
		to := nexts(d, x.levels, 0)
		f := goDown(d, x, to)
		for a := range d.Banks {
			if k.next[a]>>to[a]&1 == 0 || k.ends[a]>>f.ends[a]&1 == 0 || !has(k.water[a], f.water[a]) {
				t.Errorf("%+v, %v: %d: %+v, not %+v", d, x, a, f, k)
			}
			for b := range d.Banks {
				if !has(k.goes[a][b], f.goes[a][b]) {
					t.Errorf("%+v, %v: %d to %d: %+v, not %+v", d, x, a, b, f, k)
				}
				if a != b {
					checkDug(t, d, x, a, b, k.dig[a][b])
				}
			}
		}
		set := broken(d, x, 0)
		if k.surely&^set != 0 || set&^k.perhaps != 0 {
			t.Errorf("%+v, %v: %b broken, not from %b to %b", d, x, set, k.surely, k.perhaps)
		}
		_, stop, _ := drain.Stop(d)
		if broken(d, x, stop) != 0 {
			t.Errorf("%+v, %v: without %b some right is broken", d, x, stop)
		}
		if set != 0 {
			broke++
		}
	}
	if broke < 200 {
		t.Error(broke)
	}
}

// checkDug checks that what is returned of a drain that is to be dug contains a truth.
func checkDug(t *testing.T, d api.Drain, x truth, a, b, may int) {
	t.Helper()
	if may == tooMany {
		return
	}
	kept := broken(joined(d, way(a, b)), x, 0) == 0
	if may == api.DrainAlways && !kept || may == api.DrainNever && kept {
		t.Errorf("%+v, %v: %d to %d: %v, not %d", d, x, a, b, kept, may)
	}
}

// known returns drains of whose banks all is known exactly.
func known(d api.Drain, x truth) api.Drain {
	d = fresh(d)
	for i := range d.Banks {
		d.Banks[i] = bank(x.levels[i], x.levels[i], x.yields[i], x.yields[i])
	}
	return d
}

// P7.8: water never goes round; that of all ends, together, is that of all yields; and all of it goes on, or ends.
func TestNoWaterIsLost(t *testing.T) {
	r := rand.New(rand.NewSource(5))
	for range 1000 {
		d := great(r)
		x := chosen(r, d)
		d = known(d, x)
		k, _ := ask(t, d)
		nowhere := len(d.Banks)
		ended, yielded := 0, 0
		for a := range d.Banks {
			at := a
			for range nowhere {
				if k.next[at] != 1<<nowhere {
					at = bits.TrailingZeros(uint(k.next[at]))
				}
			}
			if k.ends[a] != 1<<at || k.next[at] != 1<<nowhere {
				t.Errorf("%+v: from %d to %d: %+v", d, a, at, k)
			}
			comes := span(x.yields[a], x.yields[a])
			for b := range d.Banks {
				comes = span(comes.Lo+k.goes[b][a].Lo, comes.Hi+k.goes[b][a].Hi)
			}
			if k.water[a] != comes || k.next[a] != 1<<nowhere && k.goes[a][bits.TrailingZeros(uint(k.next[a]))] != comes {
				t.Errorf("%+v: %d of %d: %+v", d, comes, a, k)
			}
			yielded += x.yields[a]
			if k.ends[a] == 1<<a {
				ended += k.water[a].Lo
			}
		}
		if ended != yielded {
			t.Errorf("%+v: %d of %d", d, ended, yielded)
		}
	}
}

// P7.8: both ends of each span are those of a truth: if banks yield as little as they can, the least water is the same, and so is the
// greatest if they yield as much.
func TestEndsOfSpans(t *testing.T) {
	for _, d := range anyDrains(6, 800) {
		k, ok := ask(t, d)
		if !ok {
			continue
		}
		low, high := fresh(d), fresh(d)
		for i, b := range d.Banks {
			low.Banks[i].Yield, high.Banks[i].Yield = span(b.Yield.Lo, b.Yield.Lo), span(b.Yield.Hi, b.Yield.Hi)
		}
		least, _ := ask(t, low)
		most, _ := ask(t, high)
		for a := range d.Banks {
			if least.water[a].Lo != k.water[a].Lo || most.water[a].Hi != k.water[a].Hi {
				t.Errorf("%+v: %d: %v, %v, %v", d, a, k.water[a], least.water[a], most.water[a])
			}
			for b := range d.Banks {
				if least.goes[a][b].Lo != k.goes[a][b].Lo || most.goes[a][b].Hi != k.goes[a][b].Hi {
					t.Errorf("%+v: %d to %d: %v, %v, %v", d, a, b, k.goes[a][b], least.goes[a][b], most.goes[a][b])
				}
			}
		}
	}
}

// What is returned of one call agrees with what is returned of others.
func TestCallsAgree(t *testing.T) {
	for _, d := range append(anyDrains(7, 800), greatest(), drainsD(), drainsE()) {
		k, ok := ask(t, d)
		if !ok {
			continue
		}
		for i, r := range d.Rights {
			w := k.goes[r.Of][r.To]
			if (w.Lo > r.Most) != (k.surely>>i&1 == 1) || (w.Hi > r.Most) != (k.perhaps>>i&1 == 1) {
				t.Errorf("%+v: %d: %v, %b %b", d, i, w, k.surely, k.perhaps)
			}
		}
		if (k.perhaps == 0) != (k.many == 0) {
			t.Errorf("%+v: %b is broken, %d are stopped", d, k.perhaps, k.many)
		}
		for a := range d.Banks {
			for b := range d.Banks {
				goes := k.next[a]>>b&1 == 1
				if !goes && k.goes[a][b] != span(0, 0) || a != b && k.dig[a][b] != k.dig[b][a] || goes && k.next[a] == 1<<b && k.goes[a][b] != k.water[a] {
					t.Errorf("%+v: %d to %d: %+v", d, a, b, k)
				}
			}
		}
	}
}

// P7.5: of what nothing was seen a drain is dug as if it had been there before. P7.6: and one is stopped as if it had not.
func TestAsIfBefore(t *testing.T) {
	r := rand.New(rand.NewSource(8))
	for range 500 {
		d := great(r)
		_, stop, _ := drain.Stop(d)
		if s, p, e := drain.Breaks(without(d, stop)); s != 0 || p != 0 || e != api.OK {
			t.Errorf("%+v: without %b %b is broken", d, stop, p)
		}
		if len(d.Banks) == 1 || len(d.Drains) == api.DrainDrains {
			continue
		}
		a, b := somePair(r, len(d.Banks))
		may, _ := drain.Dig(d, a, b)
		s, p, _ := drain.Breaks(joined(d, way(a, b)))
		if (may == api.DrainAlways) != (p == 0) || may != api.DrainNever && s != 0 {
			t.Errorf("%+v: %d to %d: %d, but %b %b", d, a, b, may, s, p)
		}
	}
}

// without returns drains without those of a set.
func without(d api.Drain, set int) api.Drain {
	ways := d.Drains
	d.Drains = nil
	for i, w := range ways {
		if set>>i&1 == 0 {
			d = joined(d, w)
		}
	}
	return d
}

// within tells whether a span is within another one.
func within(in, out api.Span) bool { return out.Lo <= in.Lo && in.Hi <= out.Hi }

// less tells whether the answers of drains say less than those before.
func less(before, after answers) bool {
	for a := range api.DrainBanks {
		if after.next[a]&^before.next[a] != 0 || after.ends[a]&^before.ends[a] != 0 || !within(after.water[a], before.water[a]) {
			return true
		}
		for b := range api.DrainBanks {
			was := before.dig[a][b]
			if !within(after.goes[a][b], before.goes[a][b]) || was != api.DrainPerhaps && was != after.dig[a][b] {
				return true
			}
		}
	}
	return before.surely&^after.surely != 0 || after.perhaps&^before.perhaps != 0 || after.many > before.many
}

// checkMore checks that of the drains c, of which more is known, no less is returned than of d, and tells whether c has a truth.
func checkMore(t *testing.T, d, c api.Drain) bool {
	t.Helper()
	before, ok := ask(t, d)
	after, truth := ask(t, c)
	if truth && (!ok || less(before, after)) {
		t.Errorf("%+v, %+v: %+v %v, then %+v", d, c, before, ok, after)
	}
	if !truth && !ok && after.few > before.few {
		t.Errorf("%+v, %+v: %d clash, then %d", d, c, before.few, after.few)
	}
	return truth
}

// P7.9, P2: with one thing more that was seen nothing is returned less exactly, and no more drains must be stopped, unless there is no
// truth then.
func TestSeenMore(t *testing.T) {
	r := rand.New(rand.NewSource(9))
	truths := 0
	for range 1500 {
		d := withSeen(r, great(r), api.DrainSeen-1)
		c := withSeen(r, d, 1)
		if len(c.Seen) > len(d.Seen) && checkMore(t, d, c) {
			truths++
		}
	}
	if truths < 200 {
		t.Error(truths)
	}
}

// narrower returns a span within another one.
func narrower(r *rand.Rand, w api.Span) api.Span {
	lo := w.Lo + r.Intn(w.Hi-w.Lo+1)
	return span(lo, lo+r.Intn(w.Hi-lo+1))
}

// P7.9, P2: with a level or a yield that is known better nothing is returned less exactly, and no more drains must be stopped, unless
// there is no truth then.
func TestNarrower(t *testing.T) {
	r := rand.New(rand.NewSource(10))
	truths := 0
	for i, d := range anyDrains(11, 1500) {
		c := fresh(d)
		b := &c.Banks[r.Intn(len(c.Banks))]
		if i%2 == 0 {
			b.Level = narrower(r, b.Level)
		} else {
			b.Yield = narrower(r, b.Yield)
		}
		if checkMore(t, d, c) {
			truths++
		}
	}
	if truths < 500 {
		t.Error(truths)
	}
}

// P7.9: with a right more no fewer drains must be stopped; no other right is broken, and water goes no other way.
func TestRightMore(t *testing.T) {
	r := rand.New(rand.NewSource(12))
	more := 0
	for _, d := range anyDrains(13, 1500) {
		if len(d.Rights) == api.DrainRights || len(d.Banks) == 1 {
			continue
		}
		a, b := somePair(r, len(d.Banks))
		c := under(d, right(a, b, r.Intn(6)))
		before, ok := ask(t, d)
		after, truth := ask(t, c)
		if after.many < before.many || ok != truth {
			t.Errorf("%+v, %+v: %d, then %d", d, c, before.many, after.many)
		}
		if after.many > before.many {
			more++
		}
		last := 1 << len(d.Rights)
		for a := range api.DrainBanks {
			for b := range api.DrainBanks {
				if after.dig[a][b] > before.dig[a][b] {
					t.Errorf("%+v, %+v: %d to %d: %d, then %d", d, c, a, b, before.dig[a][b], after.dig[a][b])
				}
			}
		}
		after.surely, after.perhaps, after.dig, after.many = after.surely&^last, after.perhaps&^last, before.dig, before.many
		if after != before {
			t.Errorf("%+v, %+v: %+v, then %+v", d, c, before, after)
		}
	}
	if more < 50 {
		t.Error(more)
	}
}

// P7.9, P11: if drains, or things seen, are in another order only their numbers change.
func TestOrder(t *testing.T) {
	r := rand.New(rand.NewSource(14))
	for _, d := range append(anyDrains(15, 1000), drainsD(), drainsN(), three(), greatest()) {
		c := fresh(d)
		r.Shuffle(len(c.Drains), func(i, j int) { c.Drains[i], c.Drains[j] = c.Drains[j], c.Drains[i] })
		r.Shuffle(len(c.Seen), func(i, j int) { c.Seen[i], c.Seen[j] = c.Seen[j], c.Seen[i] })
		for i, w := range c.Drains {
			if r.Intn(2) == 0 {
				c.Drains[i] = way(w.B, w.A)
			}
		}
		x, ok := ask(t, d)
		if y, truth := ask(t, c); ok != truth || x != y {
			t.Errorf("%+v, %+v: %+v %v, %+v %v", d, c, x, ok, y, truth)
		}
	}
}

// P11: if rights are in another order only their numbers change.
func TestOrderOfRights(t *testing.T) {
	r := rand.New(rand.NewSource(16))
	for _, d := range anyDrains(17, 500) {
		c := fresh(d)
		order := r.Perm(len(d.Rights))
		for i, at := range order {
			c.Rights[at] = d.Rights[i]
		}
		x, ok := ask(t, d)
		want := x
		want.surely, want.perhaps = 0, 0
		for i, at := range order {
			want.surely |= x.surely >> i & 1 << at
			want.perhaps |= x.perhaps >> i & 1 << at
		}
		if y, truth := ask(t, c); ok != truth || want != y {
			t.Errorf("%+v, %+v: %+v %v, %+v %v", d, c, want, ok, y, truth)
		}
	}
}

// P7.9: if all levels are greater by the same number nothing changes.
func TestAllHigher(t *testing.T) {
	r := rand.New(rand.NewSource(18))
	for _, d := range append(anyDrains(19, 1000), drainsD(), drainsN(), three()) {
		room := api.DrainLevel
		for _, b := range d.Banks {
			room = min(room, api.DrainLevel-b.Level.Hi)
		}
		by := r.Intn(room + 1)
		c := fresh(d)
		for i, b := range d.Banks {
			c.Banks[i].Level = span(b.Level.Lo+by, b.Level.Hi+by)
		}
		x, ok := ask(t, d)
		y, truth := ask(t, c)
		_, stop, _ := drain.Stop(d)
		_, stopped, _ := drain.Stop(c)
		seen, _ := drain.Clash(d)
		clash, _ := drain.Clash(c)
		if ok != truth || x != y || stop != stopped || seen != clash {
			t.Errorf("%+v, %+v: %+v %v, %+v %v", d, c, x, ok, y, truth)
		}
	}
}

// P7.6: with one of the drains that must be stopped some right is broken in some truth.
func TestFewestStopped(t *testing.T) {
	most := 0
	for _, d := range smallDrains(20, 1500) {
		many, set, e := drain.Stop(d)
		if e != api.OK {
			continue
		}
		most = max(most, many)
		for i := range d.Drains {
			if set>>i&1 == 0 {
				continue
			}
			breaks := 0
			for _, x := range oneByOne(d, 1<<len(d.Seen)-1) {
				breaks |= broken(d, x, set&^(1<<i))
			}
			if breaks == 0 {
				t.Errorf("%+v: without %d of %b all rights are kept", d, i, set)
			}
		}
	}
	if most < 3 {
		t.Error(most)
	}
}

// P7.7, P4: without all else that was seen what is returned clashes, and without one thing of it, too, the others do not.
func TestFewestClash(t *testing.T) {
	only := func(d api.Drain, in int) api.Drain {
		c := d
		c.Seen = nil
		for i, s := range d.Seen {
			if in>>i&1 == 1 {
				c = then(c, s)
			}
		}
		return c
	}
	clashes := 0
	for _, d := range anyDrains(21, 2000) {
		in, e := drain.Clash(d)
		if e != api.OK {
			continue
		}
		clashes++
		if _, f := drain.Clash(only(d, in)); f != api.OK {
			t.Errorf("%+v: %b do not clash", d, in)
		}
		for i := range d.Seen {
			if _, f := drain.Clash(only(d, in&^(1<<i))); in>>i&1 == 1 && f != api.ErrNone {
				t.Errorf("%+v: of %b some clash", d, in)
			}
		}
	}
	if clashes < 200 {
		t.Error(clashes)
	}
}

// P11: a call leaves nothing behind that changes a later one.
func TestAgain(t *testing.T) {
	all := anyDrains(22, 200)
	var before []answers
	for _, d := range all {
		x, _ := ask(t, d)
		before = append(before, x)
	}
	for i := len(all) - 1; i >= 0; i-- {
		if x, _ := ask(t, all[i]); x != before[i] {
			t.Errorf("%+v: %+v, then %+v", all[i], before[i], x)
		}
	}
}
