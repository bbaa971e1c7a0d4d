package drain

import "bogworks/api"

// drains are drains by which water can go.
type drains interface {
	// joined tells whether one of them joins two banks, in either order.
	joined(a, b int) bool
}

// dug is drains that are dug, all of which are open.
type dug struct{ ways []api.DrainWay }

// joins tells whether one drain joins two banks.
func (d dug) joins(n, a, b int) bool {
	w := d.ways[n]
	return w.A == a && w.B == b || w.A == b && w.B == a
}

func (d dug) joined(a, b int) bool {
	for n := range d.ways {
		if d.joins(n, a, b) {
			return true
		}
	}
	return false
}

// rest is what is left of drains if those of a set are stopped.
type rest struct {
	dug
	stopped int
}

func (r rest) joined(a, b int) bool {
	for n := range r.ways {
		if !has(r.stopped, n) && r.joins(n, a, b) {
			return true
		}
	}
	return false
}
