package road

import "bogworks/api"

// event is what happened to a road.
type event interface {
	// loads returns how heavy the load can be that goes over the road.
	loads() api.Span
	// after returns what becomes of a piece under such a load.
	after(x piece, load int) piece
	// right tells whether what becomes of a part can be so.
	right(part int, x piece) bool
}

// pass is a load that goes over the road.
type pass struct{ load api.Span }

// rest is some days without loads.
type rest struct{ days int }

// look is that somebody looks at a part. Meanwhile nothing happens to the road, as in a rest of no days.
type look struct {
	rest
	at    int
	shows api.Span
}

// eventsOf returns valid events that were given.
func eventsOf(given []api.RoadEvent) []event {
	var list []event
	for _, e := range given {
		switch e.Kind {
		case api.RoadPass:
			list = append(list, pass{e.Load})
		case api.RoadRest:
			list = append(list, rest{e.Days})
		case api.RoadLook:
			list = append(list, look{at: e.Part, shows: e.Shows})
		}
	}
	return list
}

func (p pass) loads() api.Span { return p.load }

func (p pass) after(x piece, load int) piece { return x.pressed(load) }

func (p pass) right(int, piece) bool { return true }

func (r rest) loads() api.Span { return one(0) }

func (r rest) after(x piece, _ int) piece { return x.rested(r.days) }

func (r rest) right(int, piece) bool { return true }

func (l look) right(part int, x piece) bool {
	return part != l.at || inside(x.height, l.shows.Lo, l.shows.Hi)
}
