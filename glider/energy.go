package glider

import (
	"math"

	"isobath/api"
	"isobath/bound"
)

// drifting is the heading without a direction.
const drifting = api.Headings - 1

// taken returns the energy that a dive takes.
func taken(v api.Vehicle, c api.Course) api.Span {
	if c.Heading == drifting {
		return v.Drift
	}
	return v.Use
}

// spend returns the energy left after a dive, and whether it keeps the reserve.
func spend(v api.Vehicle, e api.Span, c api.Course) (api.Span, bool) {
	// No more than MaxEnergy is taken from an energy of at least 0.
	left, _ := bound.Sub(e, taken(v, c))
	return left, left.Lo >= v.Reserve
}

// Energy returns the energy left after each dive of a plan. (P3.5)
func Energy(v api.Vehicle, e api.Span, plan []api.Course) ([]api.Span, int, api.Errno) {
	if err := first(CheckVehicle(v), checkEnergy(e), checkPlan(plan, math.MaxInt)); err != api.OK {
		return nil, 0, err
	}
	return energy(v, e, plan)
}

// energy returns what Energy does for arguments that are valid.
func energy(v api.Vehicle, e api.Span, plan []api.Course) ([]api.Span, int, api.Errno) {
	var l []api.Span
	for i, c := range plan {
		left, kept := spend(v, e, c)
		if !kept {
			return nil, i, api.ErrLost
		}
		l = append(l, left)
		e = left
	}
	return l, len(plan), api.OK
}

// Lasts returns how many dives keep the reserve for certain. (P3.5)
func Lasts(v api.Vehicle, e api.Span) (int64, api.Errno) {
	most := max(v.Use.Hi, v.Drift.Hi)
	if err := first(
		CheckVehicle(v),
		checkEnergy(e),
		unless(e.Lo >= v.Reserve, api.ErrLost),
		unless(most > 0, api.ErrOver),
	); err != api.OK {
		return 0, err
	}
	return (e.Lo - v.Reserve) / most, api.OK
}
