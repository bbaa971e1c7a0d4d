package bank

import "bogworks/api"

// lease is a lease whose lines can lie at several places.
type lease api.BankLease

// leases returns the leases of a bank.
func leases(b api.Bank) []lease {
	var list []lease
	for _, l := range b.Leases {
		list = append(list, lease(l))
	}
	return list
}

// fits tells whether the lease is one of a bank.
func (l lease) fits(b api.Bank) bool {
	return inside(l.Holder, 0, b.Holders-1) &&
		placed(l.From, 0, b.Perches-1) &&
		placed(l.To, 1, b.Perches) &&
		l.From.Lo < l.To.Hi
}

// placed tells whether a line is known well enough, and lies between two others.
func placed(s api.Span, from, to int) bool {
	// The difference comes last: it is exact only of ends that are not too far apart.
	return s.Lo <= s.Hi && from <= s.Lo && s.Hi <= to && s.Hi-s.Lo <= api.BankWide
}

// stage is how far a lease has come, perch by perch.
type stage int

const (
	ahead stage = iota
	within
	behind
)

// turns returns at which lines a stage, ahead or within, can end.
func (l lease) turns(s stage) api.Span {
	if s == within {
		return l.To
	}
	// A first line from the last place of the second one on would leave none for that.
	return api.Span{Lo: l.From.Lo, Hi: min(l.From.Hi, l.To.Hi-1)}
}

// past returns the stages in which the lease can be just past a line, by the stage just before it.
func (l lease) past(line int, s stage) []stage {
	if s == behind {
		return []stage{behind}
	}
	where := l.turns(s)
	var list []stage
	if line < where.Hi {
		list = append(list, s)
	}
	if inside(line, where.Lo, where.Hi) {
		list = append(list, s+1)
	}
	return list
}
