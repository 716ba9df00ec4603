package glider

import (
	"slices"

	"isobath/api"
)

// state is where a search is: after the dives of a plan.
type state struct {
	plan   []api.Course
	box    api.Box
	time   int64
	energy api.Span
	cost   int64
}

// next returns the state after one more dive, and whether it keeps the reserve.
func (l leg) next(s state, c api.Course) (state, bool) {
	left, kept := spend(l.vehicle, s.energy, c)
	return state{
		plan:   append(slices.Clone(s.plan), c),
		box:    l.arrive(c),
		time:   l.end,
		energy: left,
		cost:   s.cost + taken(l.vehicle, c).Hi,
	}, kept
}

// better tells whether a plan costs less than another one, or is shorter at the
// same cost.
func (s state) better(than state) bool {
	if s.cost != than.cost {
		return s.cost < than.cost
	}
	return len(s.plan) < len(than.plan)
}

// Best returns the good plan with the least cost. (P3.8)
func Best(s api.Sea, v api.Vehicle, b api.Box, t int64, e api.Span, p api.Pickup, dives int) ([]api.Course, int64, api.Errno) {
	if err := first(
		checkStart(s, v, b, t),
		checkEnergy(e),
		checkPickup(p),
		unless(within(dives, 1, api.MaxSearch), api.ErrRange),
	); err != api.OK {
		return nil, 0, err
	}
	best := trip{s, v}.best(state{box: b, time: t, energy: e}, p, dives)
	// A good plan has a course: without one the vehicle is never fetched.
	if len(best.plan) == 0 {
		return nil, 0, api.ErrPlan
	}
	return best.plan, best.cost, api.OK
}

// best returns the state after the best plan of up to some dives, or one
// without a plan if none is good.
func (t trip) best(from state, p api.Pickup, dives int) state {
	var best state
	var grow func(at state)
	grow = func(at state) {
		l, e := t.leaveSafely(at.box, at.time)
		if e != api.OK {
			return
		}
	search:
		for c := range t.courses() {
			next, kept := l.next(at, c)
			switch {
			case !kept:
				continue search
			case inTime(p, next.time) && inside(next.box, p.Area) == api.Yes:
				// Of equal ones the first one stays: courses come in their order.
				if len(best.plan) == 0 || next.better(best) {
					best = next
				}
				// To grow it further costs no less.
				continue search
			}
			if len(next.plan) < dives {
				grow(next)
			}
		}
	}
	grow(from)
	return best
}
