package clamp

import "bogworks/api"

// known is how many sods clamps can have after all events, by each way in which they can have been built.
type known map[built]stock

// truths returns what all truths leave, and gives the call up if there is none.
func (y yard) truths() known {
	k := known{}
	for b := range y.builds() {
		k[b] = y.after(b)
	}
	refuse(len(k) == 0, api.ErrClash)
	return k
}

// spread returns what is known of a number, by what it can be if clamps were built in one way.
func (k known) spread(of func(b built, s stock) sods) sods {
	wide := excluded()
	for b, s := range k {
		wide = wide.join(of(b, s))
	}
	return wide
}

// first returns how many sods a clamp had at first.
func (k known) first(clamp int) sods {
	return k.spread(func(b built, _ stock) sods { return one(b.first(clamp)) })
}

// left returns how many sods a clamp has after all events.
func (k known) left(clamp int) sods {
	return k.spread(func(_ built, s stock) sods { return s[clamp] })
}

// sold returns how many sods all sales of a clamp took off: what it had and no longer has.
func (k known) sold(clamp int) sods {
	return k.spread(func(b built, s stock) sods { return one(b.first(clamp)).minus(s[clamp]) })
}

// total returns how many sods the clamps of a set have together after all events. It can be known better than by what each of them has,
// as the pack is the same for all.
func (k known) total(set int) sods {
	return k.spread(func(_ built, s stock) sods {
		all := one(0)
		for clamp, left := range s {
			if in(set, clamp) {
				all = all.plus(left)
			}
		}
		return all
	})
}

// empty returns the set of the clamps that surely have no sods after all events, and that of those that perhaps have none.
func (y yard) empty() (surely, perhaps int) {
	k := y.truths()
	which := func(suits func(left sods) bool) (set int) {
		for clamp := range y.piles {
			if suits(k.left(clamp)) {
				set |= 1 << clamp
			}
		}
		return set
	}
	return which(sods.gone), which(sods.low)
}

// share returns the fewest clamps that surely have so many sods together, and gives the call up if not even all of them have.
func (y yard) share(n int) int {
	k := y.truths()
	set, ok := first(subsets(y.clamps()), wish[int]{func(set int) bool { return k.total(set).Lo >= n }})
	refuse(!ok, api.ErrNone)
	return set
}
