package clamp

import (
	"math"

	"bogworks/api"
)

// sods is what is known of a number of sods: the span that contains it. That from which all are excluded has its Lo above its Hi.
type sods struct{ api.Span }

// between returns the numbers from one to another one.
func between(lo, hi int) sods { return sods{api.Span{Lo: lo, Hi: hi}} }

// one returns a number that is known exactly.
func one(n int) sods { return between(n, n) }

// excluded returns no number. It adds nothing to what it is joined with.
func excluded() sods { return between(math.MaxInt, math.MinInt) }

// none tells whether all numbers are excluded.
func (s sods) none() bool { return s.Lo > s.Hi }

// has tells whether the number can be n.
func (s sods) has(n int) bool { return inside(n, s.Lo, s.Hi) }

// each yields all that the number can be.
func (s sods) each(yield func(n int) bool) {
	for n := s.Lo; n <= s.Hi; n++ {
		if !yield(n) {
			return
		}
	}
}

// join returns what is known of a number that is one of both.
func (s sods) join(t sods) sods { return between(min(s.Lo, t.Lo), max(s.Hi, t.Hi)) }

// meet returns what is known of a number that is both.
func (s sods) meet(t sods) sods { return between(max(s.Lo, t.Lo), min(s.Hi, t.Hi)) }

// plus returns what is known of both numbers together.
func (s sods) plus(t sods) sods { return between(s.Lo+t.Lo, s.Hi+t.Hi) }

// minus returns what is left of the number once the other one is taken off, which is no greater.
func (s sods) minus(t sods) sods { return between(max(s.Lo-t.Hi, 0), s.Hi-t.Lo) }

// gone tells whether the number surely is 0.
func (s sods) gone() bool { return s.Hi == 0 }

// low tells whether the number can be 0.
func (s sods) low() bool { return s.Lo == 0 }

// reaches returns whether the number is at least n.
func (s sods) reaches(n int) int {
	switch {
	case s.Lo >= n:
		return api.ClampAlways
	case s.Hi >= n:
		return api.ClampPerhaps
	}
	return api.ClampNever
}
