package burst

import (
	"iter"
	"math/bits"
)

// measure is by what things are compared.
type measure[T any] struct{ of func(x T) int }

// least returns the first of some things of which the measure is least, and whether there are any.
func least[T any](all iter.Seq[T], m measure[T]) (found T, ok bool) {
	size := 0
	for x := range all {
		if n := m.of(x); !ok || n < size {
			found, size, ok = x, n, true
		}
	}
	return found, ok
}

// size returns how many elements a set has.
func size(set int) int { return bits.OnesCount(uint(set)) }

// has tells whether a number is in a set.
func has(set, n int) bool { return set>>n&1 == 1 }
