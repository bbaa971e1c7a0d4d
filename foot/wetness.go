package foot

import "bogworks/api"

// wetness is how wet a heap is at the beginning of a day.
type wetness int

// course is how wet a heap is at the beginning of each day, the one after the last day too. Behind that there are zeros.
type course [api.FootDays + 1]wetness

// spread returns how wet a heap that lies in the open is a day later.
func (w wetness) spread(rain, dry int) wetness { return max(0, w+wetness(rain-dry)) }

// covered returns how wet a heap in a clamp is a day later: no rain gets there, nor does it dry any more.
func (w wetness) covered(_, _ int) wetness { return w }

// bears tells whether a heap is no wetter than a limit is.
func (w wetness) bears(heap wetness) bool { return heap <= w }

// suits tells whether a heap is such on the day of a step as is needed then; for a step that is not done it always is.
func (c course) suits(day int, need func(heap wetness) bool) bool {
	return day == undone || need(c[day])
}
