package voyage

import (
	"slices"

	"isobath/api"
)

// rest returns the ship after the jobs that have begun, from a time on.
func (p trip) rest(begun []int, begins []int64, now int64) api.Ship {
	s := p.ship
	s.Teams = slices.Clone(s.Teams)
	s.From, s.Start = p.ready(begun, begins, len(begun))
	s.Start = min(max(s.Start, now), s.End)
	for _, i := range begun {
		s.Wire -= p.jobs[i].Wire
	}
	return s
}

// Rest returns how many jobs have begun, and the ship for the rest of them. (P9.8)
func Rest(c api.Chart, s api.Ship, l []api.Job, order []int, now int64) (int, api.Ship, api.Errno) {
	p, begins, e := checked(c, s, l, order)
	if e != api.OK {
		return 0, api.Ship{}, e
	}
	if !isTime(now) {
		return 0, api.Ship{}, api.ErrRange
	}
	// No job begins before the one that comes before it in the order.
	n, _ := slices.BinarySearch(begins, now)
	return n, p.rest(order[:n], begins, now), api.OK
}
