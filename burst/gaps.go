package burst

import (
	"iter"
	"slices"

	"bogworks/api"
)

// The numbers of a bog have places: that of nought comes first, then those of the water at the beginning of each day, then those of what
// each bank bears, less what is cut at its foot.
const (
	nought = 0
	places = 1 + api.BurstDays + 1 + api.BurstBanks
)

// wet returns the place of the water on a day.
func wet(day int) int { return 1 + day }

// firm returns the place of what a bank bears.
func firm(bank int) int { return 1 + api.BurstDays + 1 + bank }

// far is more than any two numbers of a bog can differ: as a bound it says nothing of them.
const far = 1000

// gaps is by how much the number at each place can be greater than that at each other one, at most.
type gaps [places][places]int

// bound is that the number at the place a is at most so much greater than that at the place b.
type bound struct{ a, b, most int }

// anything returns the gaps of numbers of which nothing is known.
func anything() (g gaps) {
	for a := range places {
		for b := range places {
			if a != b {
				g[a][b] = far
			}
		}
	}
	return g
}

// with returns what is left if a bound holds, too, and whether anything is. What the bound says of two numbers it says of all others
// that are known by them.
func (g gaps) with(x bound) (left gaps, ok bool) {
	if g[x.b][x.a]+x.most < 0 {
		return gaps{}, false
	}
	for a := range places {
		for b := range places {
			left[a][b] = min(g[a][b], g[a][x.a]+x.most+g[x.b][b])
		}
	}
	return left, true
}

// between returns by how much the number at the place a can be greater than that at the place b, or less, if it is below 0.
func (g gaps) between(a, b int) api.Span { return api.Span{Lo: -g[b][a], Hi: g[a][b]} }

// water returns how much water there can be on a day.
func (g gaps) water(day int) api.Span { return g.between(wet(day), nought) }

// margin returns how much more a bank can bear on a day.
func (g gaps) margin(s spot) api.Span { return g.between(firm(s.bank), wet(s.day)) }

// low returns how much more a bank surely bears on a day.
func (g gaps) low(s spot) int { return g.margin(s).Lo }

// high returns how much more a bank perhaps bears on a day.
func (g gaps) high(s spot) int { return g.margin(s).Hi }

// weakest returns the first of some spots at which the least margin is least, and this margin.
func (g gaps) weakest(at iter.Seq[spot]) (s spot, margin int) {
	s, _ = least(at, measure[spot]{g.low})
	return s, g.low(s)
}

// differ returns the bounds by which the number at the place a, less that at the place b, is within a span.
func differ(a, b int, by api.Span) []bound { return []bound{{a, b, by.Hi}, {b, a, -by.Lo}} }

// together yields the bounds of some lists.
func together(lists ...[]bound) iter.Seq[bound] { return slices.Values(slices.Concat(lists...)) }
