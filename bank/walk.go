package bank

import (
	"iter"

	"bogworks/api"
)

// progress is how far each lease has come when the lines before a line are passed.
type progress struct {
	line   int
	stages [api.BankLeases]stage
}

// moved yields the progress with a lease past the line, once for each stage in which it can be then.
func (p progress) moved(i int, past func(line int, s stage) []stage) iter.Seq[progress] {
	return func(yield func(progress) bool) {
		for _, s := range past(p.line, p.stages[i]) {
			q := p
			q.stages[i] = s
			if !yield(q) {
				return
			}
		}
	}
}

// next yields how far all leases can have come when the line is passed too.
func (g ground) next(p progress) iter.Seq[progress] {
	return func(yield func(progress) bool) { g.pass(p, 0, yield) }
}

// pass takes the leases from one on past the line, and tells whether more is wanted.
func (g ground) pass(p progress, i int, yield func(progress) bool) bool {
	if i == len(g.leases) {
		p.line++
		return yield(p)
	}
	for q := range p.moved(i, g.leases[i].past) {
		if !g.pass(q, i+1, yield) {
			return false
		}
	}
	return true
}

// done tells whether the last line is passed, behind which there is no perch.
func (g ground) done(p progress) bool { return p.line > g.perches }

// owner returns whose the perch behind the line that was passed last is.
func (g ground) owner(p progress) int {
	for i := len(g.leases) - 1; i >= 0; i-- {
		if p.stages[i] == within {
			return g.leases[i].Holder
		}
	}
	return g.nobody
}

// own returns how many perches of a holder there are between the line that was passed last and the next one.
func (g ground) own(p progress, holder int) int {
	if !g.done(p) && g.owner(p) == holder {
		return 1
	}
	return 0
}

// suits tells whether the perch behind the line that was passed last is as it is asked.
func (g ground) suits(p progress, a asked) bool {
	return g.done(p) || a.right(p.line-1, g.owner(p))
}

// possible tells whether there is a truth in which all is as it is asked.
func (g ground) possible(a asked) bool {
	seen := map[progress]bool{}
	open := []progress{{}}
	found := false
search:
	for len(open) > 0 {
		p := open[len(open)-1]
		open = open[:len(open)-1]
		for q := range g.next(p) {
			if g.done(q) {
				found = true
				break search
			}
			if g.suits(q, a) && !seen[q] {
				seen[q] = true
				open = append(open, q)
			}
		}
	}
	return found
}

// truths returns in how many truths, in which all is as it is asked, a holder has how many perches.
func (g ground) truths(a asked, holder int) widths {
	known := map[progress]widths{}
	var ways func(p progress) widths
	ways = func(p progress) widths {
		if g.done(p) {
			return widths{1}
		}
		if w, ok := known[p]; ok {
			return w
		}
		var w widths
		for q := range g.next(p) {
			if g.suits(q, a) {
				rest := ways(q)
				w = w.plus(rest, g.own(q, holder))
			}
		}
		known[p] = w
		return w
	}
	return ways(progress{})
}

// widths is in how many truths there are how many perches.
type widths [api.BankPerches + 1]int

// plus returns these widths and others, each of the others with own perches more.
func (w widths) plus(others widths, own int) widths {
	for n, truths := range others {
		// Where there are no truths n and own can come to more perches than a bank has.
		if truths > 0 {
			w[n+own] += truths
		}
	}
	return w
}

// reach returns from which to which number of perches there are truths.
func (w widths) reach() api.Span {
	s := api.Span{Lo: len(w), Hi: 0}
	for n, truths := range w {
		if truths > 0 {
			s = api.Span{Lo: min(s.Lo, n), Hi: n}
		}
	}
	return s
}
