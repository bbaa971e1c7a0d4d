package foot

// truth is one way in which all that is given can be so. A heap is the wetter the wetter it was and the more it rained:
// so what can be done in the worst truth can be in each, and what cannot be in the best one cannot be in any.
type truth interface {
	// start returns how wet a heap is in the beginning.
	start(heap int) wetness
	// rain returns how much it rains in a day.
	rain(day int) int
}

// worst is the truth in which each heap is as wet, and it rains as much, as can be.
type worst struct{ given work }

// best is the truth in which each heap is as dry, and it rains as little, as can be.
type best struct{ worst }

func (t worst) start(heap int) wetness { return wetness(t.given.Heaps[heap].Wet.Hi) }

func (t worst) rain(day int) int { return t.given.Rain[day].Hi }

func (t best) start(heap int) wetness { return wetness(t.given.Heaps[heap].Wet.Lo) }

func (t best) rain(day int) int { return t.given.Rain[day].Lo }
