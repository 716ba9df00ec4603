package glider

import (
	"slices"

	"isobath/api"
	"isobath/bound"
)

// direction is where a heading leads, in thousandths.
type direction struct {
	x, y int64
}

// directions are the directions of the headings.
var directions = [api.Headings]direction{
	{0, 1000}, {707, 707}, {1000, 0}, {707, -707},
	{0, -1000}, {-707, -707}, {-1000, 0}, {-707, 707},
	{0, 0},
}

const (
	milli = 1000          // mm in a metre, and thousandths in a whole
	micro = milli * milli // thousandths of mm in a metre
)

// leg is the beginning of a possible dive, with what is the same for all its
// courses.
type leg struct {
	trip
	box      api.Box
	end      int64         // when the dive ends
	cells    []int         // the cells that the reach touches
	currents []api.Current // the current at the reach, for each layer
}

// reach returns the reach of a dive that begins in a box.
func (t trip) reach(b api.Box) api.Box {
	fastest := t.vehicle.Speed + t.Most
	way, _ := bound.Scale(api.Span{Lo: fastest, Hi: fastest}, t.vehicle.Dive, milli)
	return api.Box{X: grown(b.X, way.Hi), Y: grown(b.Y, way.Hi)}
}

// leave begins a dive, or returns ErrNone if it is not possible.
func (t trip) leave(b api.Box, at int64) (leg, api.Errno) {
	reach, end := t.reach(b), at+t.vehicle.Dive
	if !t.knows(reach, end) {
		return leg{}, api.ErrNone
	}
	l := leg{trip: t, box: b, end: end, cells: t.touched(reach)}
	for layer := range t.Layers {
		l.currents = append(l.currents, t.current(l.cells, layer, at, end))
	}
	return l, api.OK
}

// leaveSafely begins a dive, or returns the error of Dive if it is not
// possible, or not safe.
func (t trip) leaveSafely(b api.Box, at int64) (leg, api.Errno) {
	l, e := t.leave(b, at)
	if e != api.OK {
		return leg{}, e
	}
	isShore := func(cell int) bool { return t.Shores[cell] }
	if slices.ContainsFunc(l.cells, isShore) {
		return leg{}, api.ErrRule
	}
	return l, api.OK
}

// arrive returns the box in which the dive ends.
func (l leg) arrive(c api.Course) api.Box {
	d, current := directions[c.Heading], l.currents[c.Layer]
	return api.Box{
		X: l.move(l.box.X, d.x, current.U),
		Y: l.move(l.box.Y, d.y, current.V),
	}
}

// move returns where the dive leads along one of both directions.
func (l leg) move(from api.Span, thousandths int64, current api.Span) api.Span {
	own := thousandths * l.vehicle.Speed
	speed := api.Span{Lo: own + milli*current.Lo, Hi: own + milli*current.Hi}
	way, _ := bound.Scale(speed, l.vehicle.Dive, micro)
	to, _ := bound.Add(from, way)
	return to
}

// Dive returns the box in which a dive ends. (P3.3)
func Dive(s api.Sea, v api.Vehicle, b api.Box, t int64, c api.Course) (api.Box, api.Errno) {
	plan := []api.Course{c}
	if e := first(checkStart(s, v, b, t), checkPlan(plan, s.Layers-1)); e != api.OK {
		return api.Box{}, e
	}
	l, e := trip{s, v}.leaveSafely(b, t)
	if e != api.OK {
		return api.Box{}, e
	}
	return l.arrive(c), api.OK
}

// Run returns the boxes in which the dives of a plan end. (P3.4)
func Run(s api.Sea, v api.Vehicle, b api.Box, t int64, plan []api.Course) ([]api.Box, int, api.Errno) {
	if e := first(checkStart(s, v, b, t), checkPlan(plan, s.Layers-1)); e != api.OK {
		return nil, 0, e
	}
	return trip{s, v}.run(b, t, plan)
}

// run returns what Run does for arguments that are valid.
func (t trip) run(b api.Box, at int64, plan []api.Course) ([]api.Box, int, api.Errno) {
	var boxes []api.Box
	for i, c := range plan {
		l, e := t.leaveSafely(b, at)
		if e != api.OK {
			return nil, i, e
		}
		b, at = l.arrive(c), l.end
		boxes = append(boxes, b)
	}
	return boxes, len(plan), api.OK
}
