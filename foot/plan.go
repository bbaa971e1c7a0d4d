package foot

import "bogworks/api"

// The last step is that the heap is clamped; a step that is not done has no day.
const (
	clamping = 2
	undone   = -1
)

// plan is on which days the steps are done on a heap.
type plan api.FootPlan

// noSteps returns the plan of a heap on which nothing is done; it is the first of all plans.
func noSteps() plan { return plan{undone, undone, undone} }

// isDay tells whether a number is one of so many days.
func isDay(n, days int) bool { return inside(n, 0, days-1) }

// inOrder tells whether each step that is done has one of so many days, and those before it have earlier ones.
func (p plan) inOrder(days int) bool {
	for step, day := range p {
		if day == undone {
			continue
		}
		if !isDay(day, days) || step > 0 && !inside(p[step-1], 0, day-1) {
			return false
		}
	}
	return true
}

// upTo returns the plan without the steps after one.
func (p plan) upTo(step int) plan {
	for later := step + 1; later < len(p); later++ {
		p[later] = undone
	}
	return p
}

// done returns how many steps are done by a day, on this day too. The plan has to be in order.
func (p plan) done(by int) int {
	steps := 0
	for _, day := range p {
		if inside(day, 0, by) {
			steps++
		}
	}
	return steps
}
