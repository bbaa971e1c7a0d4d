package sod

import (
	"slices"

	"bogworks/api"
)

// most is how many strokes there are at most, in all days.
const most = api.SodDays * api.SodStrokes

// strokes is from how many to how many strokes there can have been.
type strokes api.Span

// reach is how many strokes there can have been by the end of each day. Behind the last day there are zeros.
type reach [api.SodDays]strokes

// meet puts bounds together: it returns the strokes that lie within all of them.
func meet(bounds ...strokes) strokes {
	s := strokes{Lo: 0, Hi: most}
	for _, b := range bounds {
		s = strokes{Lo: max(s.Lo, b.Lo), Hi: min(s.Hi, b.Hi)}
	}
	return s
}

// after returns the strokes with those of one day more.
func (s strokes) after(day api.Span) strokes { return strokes{Lo: s.Lo + day.Lo, Hi: s.Hi + day.Hi} }

// before returns the strokes with those of one day less.
func (s strokes) before(day api.Span) strokes { return strokes{Lo: s.Lo - day.Hi, Hi: s.Hi - day.Lo} }

// none tells whether there can have been no number of strokes.
func (s strokes) none() bool { return s.Lo > s.Hi }

// surely tells whether there were at least so many strokes in each truth.
func (s strokes) surely(many int) bool { return s.Lo >= many }

// perhaps tells whether there were at least so many strokes in some truth.
func (s strokes) perhaps(many int) bool { return s.Hi >= many }

// left returns how many strokes of so many are still to be done.
func (s strokes) left(of int) api.Span { return api.Span{Lo: max(0, of-s.Hi), Hi: max(0, of-s.Lo)} }

// possible tells whether there can have been some number of strokes by each day.
func (r reach) possible() bool { return !slices.ContainsFunc(r[:], strokes.none) }

// first returns the first of so many days by which there were enough strokes, or how many days there are.
func (r reach) first(days, many int, enough func(s strokes, many int) bool) int {
	for day := range days {
		if enough(r[day], many) {
			return day
		}
	}
	return days
}
