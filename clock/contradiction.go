package clock

import (
	"iter"

	"isobath/api"
)

// pair is the indexes of two exchanges, the lesser one first.
type pair [2]int

// none stands for no pair, as no exchange makes a pair with itself.
func none() pair { return pair{} }

// pairs yields all pairs of some exchanges, by their greater and then by their
// lesser index.
func pairs(exchanges int) iter.Seq[pair] {
	return func(yield func(pair) bool) {
		for k := range exchanges {
			for i := range k {
				if !yield(pair{i, k}) {
					return
				}
			}
		}
	}
}

// contradict tells whether two exchanges contradict each other.
func (c clock) contradict(i, k int) bool {
	a, b := c.offsets[i], c.offsets[k]
	return !exists(meet(a.at(b.reading, c.rate), b.Span))
}

// contradiction returns the first pair of exchanges that contradict each other,
// or none.
func (c clock) contradiction() pair {
	for p := range pairs(len(c.offsets)) {
		if c.contradict(p[0], p[1]) {
			return p
		}
	}
	return none()
}

// sound tells whether no two exchanges contradict each other.
func (c clock) sound() bool { return c.contradiction() == none() }

// Contradiction returns two exchanges that contradict each other. (P5.3)
func Contradiction(c api.Clock) (int, int, api.Errno) {
	known, e := learn(c)
	if e != api.OK {
		return 0, 0, e
	}
	p := known.contradiction()
	if p == none() {
		return 0, 0, api.ErrNone
	}
	return p[0], p[1], api.OK
}

// CheckContradiction reports whether two exchanges contradict each other. (P5.3)
func CheckContradiction(c api.Clock, i, k int) api.Errno {
	known, e := learn(c)
	if e != api.OK {
		return e
	}
	last := len(known.offsets) - 1
	if !within(i, 0, last) || !within(k, 0, last) {
		return api.ErrRange
	}
	// No exchange contradicts itself: its offset has a number.
	if !known.contradict(i, k) {
		return api.ErrSum
	}
	return api.OK
}
