package cut

import (
	"iter"

	"bogworks/api"
)

// known is the course of the water by each leak, with each set of looks, that leave a truth.
type known map[taken]course

// at returns how deep the water can be at the beginning of a day.
func (k known) at(day int) depths {
	wide := join()
	for _, c := range k {
		wide = join(wide, c[day].Span)
	}
	return depths{wide}
}

// leak returns how much can leak away in a day.
func (k known) leak() api.Span {
	wide := join()
	for t := range k {
		wide = join(wide, one(t.leak))
	}
	return wide
}

// on returns the set of those of some days on which the water is as deep as is needed.
func (k known) on(days iter.Seq[int], enough func(d depths, need api.Span) bool, need api.Span) int {
	set := 0
	for day := range days {
		if enough(k.at(day), need) {
			set |= 1 << day
		}
	}
	return set
}
