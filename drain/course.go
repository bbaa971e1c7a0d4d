package drain

import "bogworks/api"

// course is where water goes: to which bank from each of some banks. If it goes nowhere that is how many banks there are.
type course struct {
	to    []int
	banks []api.DrainBank
}

// next returns where the water of a bank goes next.
func (c course) next(bank int) int { return c.to[bank] }

// end returns the bank at which the water of a bank ends. There is one, since it only goes down.
func (c course) end(bank int) int {
	for c.next(bank) < len(c.banks) {
		bank = c.next(bank)
	}
	return bank
}

// water returns how much water a bank has, with that of all banks from which it comes.
func (c course) water(bank int) api.Span {
	var yields []api.Span
	var follow func(bank int)
	follow = func(bank int) {
		yields = append(yields, c.banks[bank].Yield)
		for from, to := range c.to {
			if to == bank {
				follow(from)
			}
		}
	}
	follow(bank)
	return add(yields...)
}

// straight returns how much water goes straight from a bank to another one.
func (c course) straight(from, to int) api.Span {
	if c.next(from) != to {
		return api.Span{}
	}
	return c.water(from)
}

// canBreak tells whether a right is broken if banks yield as much as they can.
func (c course) canBreak(r api.DrainRight) bool { return c.straight(r.Of, r.To).Hi > r.Most }

// mustBreak tells whether a right is broken even if banks yield as little as they can.
func (c course) mustBreak(r api.DrainRight) bool { return c.straight(r.Of, r.To).Lo > r.Most }

// add returns what some numbers can be together, each of which is known up to a span.
func add(spans ...api.Span) (sum api.Span) {
	for _, s := range spans {
		sum.Lo += s.Lo
		sum.Hi += s.Hi
	}
	return sum
}
