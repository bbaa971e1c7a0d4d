package heap

import "bogworks/api"

// weather is what a day does to heaps.
type weather interface {
	// evening returns how wet a heap is in the evening, by its place and by how wet it was.
	evening(place, wet int) int
}

// rainy is a day with rain: all heaps get wetter.
type rainy struct{ rain int }

// fair is a day on which the rain is 0: heaps dry instead, each place as it can.
type fair struct {
	rainy
	dries [3]int
}

func (r rainy) evening(_, wet int) int { return r.hold(wet + r.rain) }

func (f fair) evening(place, wet int) int { return f.hold(wet - f.dries[place]) }

// hold returns as much of a wetness as turf can have.
func (r rainy) hold(wet int) int { return min(max(wet, 0), api.HeapWet) }
