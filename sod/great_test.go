package sod_test

import (
	"math/rand"
	"testing"

	"bogworks/api"
)

// sheet is, for one choice of costs, what is so after each number of strokes, and how many strokes there can have been.
type sheet struct {
	after []evening
	ends  [][]bool
}

// sheets calls f with each choice of costs and its sheet, for banks that have too many truths to look at each of them.
func sheets(s api.Sod, f func(costs []int, x sheet)) {
	choices(costsOf(s), func(costs []int) {
		x := sheet{after: after(s, costs)}
		x.forward(s)
		x.backward(s)
		f(costs, x)
	})
}

const mostStrokes = api.SodDays * api.SodStrokes

func after(s api.Sod, costs []int) (list []evening) {
	left := uncut(s, costs)
	for range mostStrokes + 1 {
		list = append(list, look(s, left))
		if len(left) == 0 {
			continue
		}
		left[0].strokes--
		if left[0].strokes == 0 {
			left = left[1:]
		}
	}
	return list
}

func (x *sheet) forward(s api.Sod) {
	before := make([]bool, mostStrokes+1)
	before[0] = true
	for day, more := range s.Days {
		end := make([]bool, mostStrokes+1)
		for n, can := range before {
			for m := more.Lo; can && m <= more.Hi; m++ {
				end[n+m] = end[n+m] || right(s.Logs, day, x.after[n+m].cut)
			}
		}
		x.ends = append(x.ends, end)
		before = end
	}
}

func (x *sheet) backward(s api.Sod) {
	for day := len(s.Days) - 1; day > 0; day-- {
		for n := range x.ends[day-1] {
			can := false
			for m := s.Days[day].Lo; m <= s.Days[day].Hi && n+m <= mostStrokes; m++ {
				can = can || x.ends[day][n+m]
			}
			x.ends[day-1][n] = x.ends[day-1][n] && can
		}
	}
}

// right tells whether all counts of a day are, if so many sods are cut.
func right(logs []api.SodLog, day, cut int) bool {
	for _, l := range logs {
		if l.Day == day && (cut < l.Sods.Lo || cut > l.Sods.Hi) {
			return false
		}
	}
	return true
}

// knowingGreat returns what all truths of a bank leave.
func knowingGreat(s api.Sod) known {
	k := nothing(s)
	sheets(s, func(costs []int, x sheet) {
		for day, end := range x.ends {
			for n, can := range end {
				if !can {
					continue
				}
				k.addCosts(costs)
				k.addEvening(day, x.after[n])
				// All can be finished first by this day at the earliest, or by the next one at the latest.
				if finished := x.after[n].need == 0; finished && !x.some(day-1, true) {
					k.done[day] = true
				} else if !finished && (day == len(s.Days)-1 || !x.some(day+1, false)) {
					k.done[day+1] = true
				}
			}
		}
	})
	return k
}

// some tells whether there is a truth in which all is finished by a day, or one in which it is not.
func (x sheet) some(day int, finished bool) bool {
	for n, can := range x.ends[max(day, 0)] {
		if day >= 0 && can && (x.after[n].need == 0) == finished {
			return true
		}
	}
	return false
}

// great returns a bank of any size, with up to so many counts.
func great(r *rand.Rand, logs int) (s api.Sod) {
	for range 1 + r.Intn(api.SodSpits) {
		s.Spits = append(s.Spits, api.SodSpit{Sods: 1 + r.Intn(api.SodSods), Cost: someSpan(r, 1, api.SodCost, api.SodWide)})
	}
	for range 1 + r.Intn(api.SodDays) {
		s.Days = append(s.Days, someSpan(r, 0, api.SodStrokes, []int{0, 10, 100}[r.Intn(3)]))
	}
	x := chosen(r, s)
	for range r.Intn(logs + 1) {
		day := r.Intn(len(s.Days))
		n := x.evenings[day].cut + r.Intn(2)*r.Intn(3)
		s.Logs = append(s.Logs, count(day, max(0, n-r.Intn(10)), n+r.Intn(10)))
	}
	return s
}

// chosen returns one truth of a bank, looking at no count.
func chosen(r *rand.Rand, s api.Sod) truth {
	choose := func(spans []api.Span) (list []int) {
		for _, x := range spans {
			list = append(list, x.Lo+r.Intn(x.Hi-x.Lo+1))
		}
		return list
	}
	return work(s, choose(costsOf(s)), choose(s.Days))
}

// greatBanks returns banks of any size with counts, the same ones in each run.
func greatBanks(seed int64, many int) (list []api.Sod) {
	r := rand.New(rand.NewSource(seed))
	for range many {
		list = append(list, great(r, api.SodLogs))
	}
	return list
}

// checkGreat compares all that the package returns of a valid bank of any size with what its truths leave.
func checkGreat(t *testing.T, s api.Sod, fits []api.Span) {
	t.Helper()
	checkKnown(t, s, knowingGreat(s), fits)
	checkClash(t, s, func(in int) bool {
		c := s
		c.Logs = only(s.Logs, in)
		return len(knowingGreat(c).done) > 0
	})
}
