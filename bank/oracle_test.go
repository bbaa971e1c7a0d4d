package bank_test

import (
	"math/bits"
	"math/rand"
	"testing"

	"bogworks/api"
	"bogworks/bank"
)

func span(lo, hi int) api.Span { return api.Span{Lo: lo, Hi: hi} }

func lease(holder, a, b, c, d int) api.BankLease {
	return api.BankLease{Holder: holder, From: span(a, b), To: span(c, d)}
}

func mark(perch, holder int) api.BankMark { return api.BankMark{Perch: perch, Holder: holder} }

// marked returns the bank with marks behind its own.
func marked(b api.Bank, marks ...api.BankMark) api.Bank {
	b.Marks = append(append([]api.BankMark(nil), b.Marks...), marks...)
	return b
}

// bankB, bankM, bankN and bankE are those of the document's examples.
func bankB() api.Bank {
	return api.Bank{Perches: 6, Holders: 2, Leases: []api.BankLease{lease(0, 0, 0, 4, 5), lease(1, 3, 4, 6, 6)}}
}

func bankM() api.Bank { return marked(bankB(), mark(3, 0)) }

func bankN() api.Bank { return marked(bankM(), mark(4, 0)) }

func bankE() api.Bank {
	return api.Bank{Perches: 3, Holders: 1, Leases: []api.BankLease{lease(0, 1, 1, 2, 3)}}
}

// greatest returns the greatest bank that is valid, without marks: 9 pairs of lines for each of 4 leases.
func greatest() api.Bank {
	b := api.Bank{Perches: 10, Holders: 4}
	for holder := range 4 {
		b.Leases = append(b.Leases, lease(holder, 0, 2, 8, 10))
	}
	return b
}

// truth is whose each perch is.
type truth []int

// every returns what each choice of lines leaves, one truth for each choice, looking at no mark.
func every(b api.Bank) (list []truth) {
	lines := make([][2]int, len(b.Leases))
	var choose func(i int)
	choose = func(i int) {
		if i == len(b.Leases) {
			list = append(list, owners(b, lines))
			return
		}
		l := b.Leases[i]
		for from := l.From.Lo; from <= l.From.Hi; from++ {
			for to := l.To.Lo; to <= l.To.Hi; to++ {
				if from < to {
					lines[i] = [2]int{from, to}
					choose(i + 1)
				}
			}
		}
	}
	choose(0)
	return list
}

func owners(b api.Bank, lines [][2]int) truth {
	t := make(truth, b.Perches)
	for p := range t {
		t[p] = b.Holders
		for i, x := range lines {
			if x[0] <= p && p < x[1] {
				t[p] = b.Leases[i].Holder
			}
		}
	}
	return t
}

func (t truth) agrees(marks []api.BankMark) bool {
	for _, m := range marks {
		if t[m.Perch] != m.Holder {
			return false
		}
	}
	return true
}

// truths returns the truths of a bank.
func truths(b api.Bank) (list []truth) {
	for _, t := range every(b) {
		if t.agrees(b.Marks) {
			list = append(list, t)
		}
	}
	return list
}

// only returns the marks of a set.
func only(marks []api.BankMark, set int) (list []api.BankMark) {
	for i, m := range marks {
		if set>>i&1 == 1 {
			list = append(list, m)
		}
	}
	return list
}

// least returns the first set of n marks that suits: of few ones, and of these the least number; -1 if none does.
func least(n int, suits func(set int) bool) int {
	for size := 0; size <= n; size++ {
		for set := range 1 << n {
			if bits.OnesCount(uint(set)) == size && suits(set) {
				return set
			}
		}
	}
	return -1
}

// can tells whether some of the choices of lines agree with marks.
func can(all []truth, marks []api.BankMark) bool {
	for _, t := range all {
		if t.agrees(marks) {
			return true
		}
	}
	return false
}

func (t truth) wide(holder int) (n int) {
	for _, h := range t {
		if h == holder {
			n++
		}
	}
	return n
}

// checkAll compares all that the package returns of a valid bank with what its truths, one by one, leave.
func checkAll(t *testing.T, b api.Bank) {
	t.Helper()
	all := truths(b)
	if n, e := bank.Count(b); n != len(all) || e != api.OK {
		t.Errorf("Count %+v: %d %d, want %d", b, n, e, len(all))
	}
	checkMarks(t, b)
	want := api.OK
	if len(all) == 0 {
		want = api.ErrClash
	}
	checkPerches(t, b, all, want)
	checkHolders(t, b, all, want)
	checkAsk(t, b, all, want)
}

func checkMarks(t *testing.T, b api.Bank) {
	t.Helper()
	all, n := every(b), len(b.Marks)
	out := least(n, func(set int) bool { return can(all, only(b.Marks, ^set)) })
	if many, set, e := bank.False(b); many != bits.OnesCount(uint(out)) || set != out || e != api.OK {
		t.Errorf("False %+v: %d %d %d, want %d", b, many, set, e, out)
	}
	bad, want := least(n, func(set int) bool { return !can(all, only(b.Marks, set)) }), api.OK
	if bad < 0 {
		bad, want = 0, api.ErrNone
	}
	if set, e := bank.Clash(b); set != bad || e != want {
		t.Errorf("Clash %+v: %d %d, want %d %d", b, set, e, bad, want)
	}
}

func checkPerches(t *testing.T, b api.Bank, all []truth, want api.Errno) {
	t.Helper()
	for p := range b.Perches {
		holders, differ := 0, 0
		for _, x := range all {
			holders |= 1 << x[p]
			if p > 0 && x[p] != x[p-1] {
				differ++
			}
		}
		if n, e := bank.Whose(b, p); n != holders || e != want {
			t.Errorf("Whose %+v, %d: %d %d, want %d %d", b, p, n, e, holders, want)
		}
		if p == 0 {
			continue
		}
		line := api.BankPerhaps
		if differ == 0 {
			line = api.BankNever
		} else if differ == len(all) {
			line = api.BankAlways
		}
		if n, e := bank.Line(b, p); n != line || e != want {
			t.Errorf("Line %+v, %d: %d %d, want %d %d", b, p, n, e, line, want)
		}
	}
}

func checkHolders(t *testing.T, b api.Bank, all []truth, want api.Errno) {
	t.Helper()
	for h := 0; h <= b.Holders; h++ {
		surely, perhaps, wide := 0, 0, api.Span{}
		for i, x := range all {
			has := 0
			for p := range x {
				if x[p] == h {
					has |= 1 << p
				}
			}
			n := x.wide(h)
			if i == 0 {
				surely, wide = has, span(n, n)
			}
			surely, perhaps = surely&has, perhaps|has
			wide = span(min(wide.Lo, n), max(wide.Hi, n))
		}
		if s, q, e := bank.Has(b, h); s != surely || q != perhaps || e != want {
			t.Errorf("Has %+v, %d: %d %d %d, want %d %d %d", b, h, s, q, e, surely, perhaps, want)
		}
		if s, e := bank.Wide(b, h); s != wide || e != want {
			t.Errorf("Wide %+v, %d: %v %d, want %v %d", b, h, s, e, wide, want)
		}
	}
}

func checkAsk(t *testing.T, b api.Bank, all []truth, want api.Errno) {
	t.Helper()
	perch, left := 0, len(all)+1
	for p := range b.Perches {
		many := make([]int, b.Holders+1)
		most := 0
		for _, x := range all {
			many[x[p]]++
			most = max(most, many[x[p]])
		}
		if most < left {
			perch, left = p, most
		}
	}
	if p, n, e := bank.Ask(b); p != perch || n != left || e != want {
		t.Errorf("Ask %+v: %d %d %d, want %d %d %d", b, p, n, e, perch, left, want)
	}
}

// somewhere returns a line that is known to lie within from and to.
func somewhere(r *rand.Rand, from, to int) api.Span {
	lo := from + r.Intn(to-from+1)
	return span(lo, min(to, lo+r.Intn(api.BankWide+1)))
}

// anyBank returns a valid bank with up to so many leases and marks. Its marks often are those of one truth.
func anyBank(r *rand.Rand, leases, marks int) api.Bank {
	b := api.Bank{Perches: 1 + r.Intn(api.BankPerches), Holders: 1 + r.Intn(api.BankHolders)}
	for range r.Intn(leases + 1) {
		l := api.BankLease{Holder: r.Intn(b.Holders), From: somewhere(r, 0, b.Perches-1), To: somewhere(r, 1, b.Perches)}
		if l.From.Lo < l.To.Hi {
			b.Leases = append(b.Leases, l)
		}
	}
	all := every(b)
	x := all[r.Intn(len(all))]
	for range r.Intn(marks + 1) {
		m := mark(r.Intn(b.Perches), r.Intn(b.Holders+1))
		if r.Intn(4) > 0 {
			m.Holder = x[m.Perch]
		}
		b.Marks = append(b.Marks, m)
	}
	return b
}

// someBanks returns banks, the same ones in each run.
func someBanks(seed int64, many, leases, marks int) (list []api.Bank) {
	r := rand.New(rand.NewSource(seed))
	for range many {
		list = append(list, anyBank(r, leases, marks))
	}
	return list
}
