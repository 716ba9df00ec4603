package clock

import "isobath/api"

// last returns the greatest reading at which an exchange came back.
func (c clock) last() int64 {
	t := c.offsets[0].reading
	for _, o := range c.offsets {
		t = max(t, o.reading)
	}
	return t
}

// earliest returns the least number from lo to hi from which on a condition
// holds, and whether there is one.
func earliest(lo, hi int64, holds func(t int64) bool) (int64, bool) {
	if !holds(hi) {
		return 0, false
	}
	for lo < hi {
		middle := lo + (hi-lo)/2
		if holds(middle) {
			hi = middle
		} else {
			lo = middle + 1
		}
	}
	return lo, true
}

// Due returns when the offset becomes wider than a limit. (P5.4)
func Due(c api.Clock, limit int64) (int64, api.Errno) {
	known, e := learn(c)
	if e != api.OK {
		return 0, e
	}
	if !within(limit, 0, api.MaxValue) {
		return 0, api.ErrRange
	}
	if !known.sound() {
		return 0, api.ErrNone
	}
	// After the last exchange all bounds only grow.
	t, found := earliest(known.last(), api.MaxInstant, func(t int64) bool {
		o := known.at(t)
		return o.Hi-o.Lo > limit
	})
	if !found {
		return 0, api.ErrPlan
	}
	return t, api.OK
}
