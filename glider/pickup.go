package glider

import "isobath/api"

// inTime tells whether a time is one at which a vehicle can be fetched.
func inTime(p api.Pickup, t int64) bool { return within(t, p.From, p.To) }

// Fetched returns whether a run is fetched. (P3.6)
func Fetched(v api.Vehicle, t int64, boxes []api.Box, p api.Pickup) (api.Answer, api.Errno) {
	if e := first(CheckVehicle(v), checkTime(t), checkBoxes(boxes), checkPickup(p)); e != api.OK {
		return api.No, e
	}
	return fetched(v, t, boxes, p), api.OK
}

// fetched returns what Fetched does for arguments that are valid.
func fetched(v api.Vehicle, t int64, boxes []api.Box, p api.Pickup) api.Answer {
	var l []api.Box
	for _, b := range boxes {
		t += v.Dive
		if inTime(p, t) {
			l = append(l, b)
		}
	}
	return anyInside(l, p.Area)
}

// CheckPlan reports whether a plan is good. (P3.7)
func CheckPlan(s api.Sea, v api.Vehicle, b api.Box, t int64, e api.Span, plan []api.Course, p api.Pickup) api.Errno {
	if err := first(
		checkStart(s, v, b, t),
		checkEnergy(e),
		checkPlan(plan, s.Layers-1),
		checkPickup(p),
	); err != api.OK {
		return err
	}
	boxes, _, err := trip{s, v}.run(b, t, plan)
	if err != api.OK {
		return err
	}
	if _, _, err := energy(v, e, plan); err != api.OK {
		return err
	}
	return unless(fetched(v, t, boxes, p) == api.Yes, api.ErrDue)
}
