package sod

import "bogworks/api"

// costs is how many spits there are, and of each how many sods it has, and how many strokes each of these takes.
type costs struct {
	spits      int
	sods, each [api.SodSpits]int
}

// with returns the costs with a spit more, below the others.
func (c costs) with(sods, each int) costs {
	c.sods[c.spits], c.each[c.spits] = sods, each
	c.spits++
	return c
}

// take returns how many strokes the first sods take. Of more sods than there are it is more strokes than there can be.
func (c costs) take(sods int) int {
	strokes := 0
	for i := range c.spits {
		n := min(sods, c.sods[i])
		sods -= n
		strokes += n * c.each[i]
	}
	if sods > 0 {
		return most + 1
	}
	return strokes
}

// above returns how many sods the first spits have.
func (c costs) above(spits int) int {
	sods := 0
	for _, n := range c.sods[:spits] {
		sods += n
	}
	return sods
}

// all returns how many strokes all sods take.
func (c costs) all() int { return c.take(c.above(c.spits)) }

// cut returns how many sods are cut.
func (c costs) cut(enough func(strokes int) bool) int {
	sods := 0
	for enough(c.take(sods + 1)) {
		sods++
	}
	return sods
}

// finished returns how many spits are finished.
func (c costs) finished(enough func(strokes int) bool) int {
	spits := 0
	for spits < c.spits && enough(c.take(c.above(spits+1))) {
		spits++
	}
	return spits
}

// strokes returns with how many strokes a number of sods is cut that lies between two others.
func (c costs) strokes(sods api.Span) strokes {
	return strokes{Lo: c.take(sods.Lo), Hi: c.take(sods.Hi+1) - 1}
}
