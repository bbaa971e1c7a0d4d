package cut

import "bogworks/api"

// event is what befalls the water. Of a span of depths it makes a span again, without a gap.
type event interface {
	// after returns how deep the water can be after the event, if it has some depths before.
	after(d depths) depths
	// before returns all depths that the water can have before the event, if it has some after.
	before(d depths) depths
}

// look is that somebody looks at the water, and is right.
type look struct{ depths }

// flow is a day on which it rains, and some leaks away.
type flow struct {
	rain       api.Span
	leak, most int
}

func (l look) after(d depths) depths { return l.meet(d) }

func (l look) before(d depths) depths { return l.meet(d) }

// held returns as much of a depth as the cut can have.
func (f flow) held(depth int) int { return min(max(depth, 0), f.most) }

func (f flow) after(d depths) depths {
	return depths{api.Span{Lo: f.held(d.Lo + f.rain.Lo - f.leak), Hi: f.held(d.Hi + f.rain.Hi - f.leak)}}
}

func (f flow) before(d depths) depths {
	before := depths{api.Span{Lo: 0, Hi: f.most}}
	// A depth at which the water is held does not tell how far beyond it would have been.
	if d.Lo > 0 {
		before.Lo = d.Lo - f.rain.Hi + f.leak
	}
	if d.Hi < f.most {
		before.Hi = d.Hi - f.rain.Lo + f.leak
	}
	return before
}
