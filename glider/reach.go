package glider

import "isobath/api"

// anywhere returns the hull of the boxes in which the dive ends, for all
// courses.
func (l leg) anywhere() api.Box {
	all := l.arrive(api.Course{})
	for c := range l.courses() {
		b := l.arrive(c)
		all.X, all.Y = hull(all.X, b.X), hull(all.Y, b.Y)
	}
	return all
}

// Reach returns the hull reach after each dive. (P3.9)
func Reach(s api.Sea, v api.Vehicle, b api.Box, t int64, dives int) ([]api.Box, api.Errno) {
	if e := first(
		checkStart(s, v, b, t),
		unless(within(dives, 0, api.MaxDives), api.ErrRange),
	); e != api.OK {
		return nil, e
	}
	return trip{s, v}.hullReach(b, t, dives)
}

// hullReach returns what Reach does for arguments that are valid.
func (t trip) hullReach(b api.Box, at int64, dives int) ([]api.Box, api.Errno) {
	var boxes []api.Box
	for range dives {
		l, e := t.leave(b, at)
		if e != api.OK {
			return nil, e
		}
		b, at = l.anywhere(), l.end
		boxes = append(boxes, b)
	}
	return boxes, api.OK
}

// CheckReach checks that runs stay in boxes. (P3.9)
func CheckReach(s api.Sea, v api.Vehicle, b api.Box, t int64, boxes []api.Box) api.Errno {
	if e := first(checkStart(s, v, b, t), checkBoxes(boxes)); e != api.OK {
		return e
	}
	sum := api.OK
	for _, next := range boxes {
		l, e := trip{s, v}.leave(b, t)
		if e != api.OK {
			return e
		}
		// A later dive that is not possible comes before this error (R1).
		if inside(l.anywhere(), next) != api.Yes {
			sum = api.ErrSum
		}
		b, t = next, l.end
	}
	return sum
}

// Never returns a proof that no plan is fetched. (P3.10)
func Never(s api.Sea, v api.Vehicle, b api.Box, t int64, p api.Pickup, dives int) ([]api.Box, api.Errno) {
	if e := first(
		checkStart(s, v, b, t),
		checkPickup(p),
		unless(within(dives, 1, api.MaxDives), api.ErrRange),
	); e != api.OK {
		return nil, e
	}
	boxes, e := trip{s, v}.hullReach(b, t, dives)
	if e != api.OK {
		return nil, e
	}
	if fetched(v, t, boxes, p) != api.No {
		return nil, api.ErrPlan
	}
	return boxes, api.OK
}
