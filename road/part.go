package road

import "bogworks/api"

// part is a part of a road, as far as it is known.
type part api.RoadPart

// piece is a part of a road as it is in a truth at some time.
type piece struct{ height, stiff, rise, full int }

// partsOf returns parts that were given.
func partsOf(given []api.RoadPart) []part {
	var list []part
	for _, p := range given {
		list = append(list, part(p))
	}
	return list
}

// bad tells whether the part is not valid.
func (p part) bad() bool {
	return !inside(p.Full, 0, api.RoadHeight) || !narrow(p.Height, 0, p.Full) ||
		!narrow(p.Stiff, 1, api.RoadStiff) || !narrow(p.Rise, 0, api.RoadRise)
}

// pieces yields all that the part can be at first, looking at no look.
func (p part) pieces(yield func(x piece) bool) {
	for height := p.Height.Lo; height <= p.Height.Hi; height++ {
		for stiff := p.Stiff.Lo; stiff <= p.Stiff.Hi; stiff++ {
			for rise := p.Rise.Lo; rise <= p.Rise.Hi; rise++ {
				if !yield(piece{height, stiff, rise, p.Full}) {
					return
				}
			}
		}
	}
}

// sinks returns how far the piece sinks under a load.
func (x piece) sinks(load int) int { return (load + x.stiff - 1) / x.stiff }

// pressed returns the piece after a load went over it.
func (x piece) pressed(load int) piece {
	x.height -= x.sinks(load)
	return x
}

// rested returns the piece after so many days of rest.
func (x piece) rested(days int) piece {
	x.height = min(x.height+days*x.rise, x.full)
	return x
}

// bears tells whether the piece is not below the water once a load has gone over it.
func (x piece) bears(load int) bool { return x.pressed(load).height >= 0 }
