package bank

import (
	"cmp"
	"math/bits"
	"slices"

	"bogworks/api"
)

// asked is what is asked of each perch.
type asked interface {
	right(perch, holder int) bool
}

// marked asks that marks are right.
type marked struct{ list []api.BankMark }

// claimed asks besides that the perches from first to last are the holder's.
type claimed struct {
	marked
	first, last, holder int
}

func (m marked) right(perch, holder int) bool { return !m.denies(perch, holder) }

func (c claimed) right(perch, holder int) bool {
	return !c.denies(perch, holder) && (holder == c.holder || !inside(perch, c.first, c.last))
}

// denies tells whether a mark says that a perch is somebody else's.
func (m marked) denies(perch, holder int) bool {
	for _, x := range m.list {
		if x.Perch == perch && x.Holder != holder {
			return true
		}
	}
	return false
}

// without returns the marks that are not in a set.
func (m marked) without(out int) marked {
	rest := make([]api.BankMark, len(m.list))
	copy(rest, m.list)
	kept := rest[:0]
	for i, x := range rest {
		if out>>i&1 == 0 {
			kept = append(kept, x)
		}
	}
	return marked{kept}
}

// sets returns all sets of marks, those of fewer ones first, and of as many the lesser number.
func (m marked) sets() []int {
	list := make([]int, 1<<len(m.list))
	for i := range list {
		list[i] = i
	}
	slices.SortStableFunc(list, func(a, b int) int {
		return cmp.Compare(bits.OnesCount(uint(a)), bits.OnesCount(uint(b)))
	})
	return list
}

// wish is what is looked for.
type wish[T any] struct{ suits func(T) bool }

// first returns the first item that suits, and gives the call up if none does.
func first[T any](items []T, w wish[T]) T {
	for _, x := range items {
		if w.suits(x) {
			return x
		}
	}
	panic(refusal{api.ErrNone})
}
