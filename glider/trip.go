package glider

import (
	"iter"

	"isobath/api"
	"isobath/bound"
)

// trip is a vehicle in a sea.
type trip struct {
	api.Sea
	vehicle api.Vehicle
}

// whole returns the box of the sea.
func (t trip) whole() api.Box {
	return api.Box{
		X: api.Span{Hi: int64(t.NX) * t.Cell},
		Y: api.Span{Hi: int64(t.NY) * t.Cell},
	}
}

// cell returns the box of a cell.
func (t trip) cell(c int) api.Box {
	x, y := int64(c%t.NX)*t.Cell, int64(c/t.NX)*t.Cell
	return api.Box{
		X: api.Span{Lo: x, Hi: x + t.Cell},
		Y: api.Span{Lo: y, Hi: y + t.Cell},
	}
}

// touched returns the cells that a box touches.
func (t trip) touched(b api.Box) []int {
	var cells []int
	for c := range t.NX * t.NY {
		if inside(b, t.cell(c)) != api.No {
			cells = append(cells, c)
		}
	}
	return cells
}

// knows tells whether a box is in the sea, and the slots contain all seconds
// from 0 up to a time.
func (t trip) knows(b api.Box, to int64) bool {
	return inside(b, t.whole()) == api.Yes && to <= int64(t.Slots)*t.Slot
}

// forecast returns the current of a cell in a layer and a slot.
func (t trip) forecast(slot int64, layer, cell int) api.Current {
	return t.Currents[(int(slot)*t.Layers+layer)*t.NX*t.NY+cell]
}

// current returns the current in some cells, which are at least one, in a
// layer, from a time up to a later one.
func (t trip) current(cells []int, layer int, from, to int64) api.Current {
	slot, last := from/t.Slot, (to-1)/t.Slot
	all := t.forecast(slot, layer, cells[0])
	for ; slot <= last; slot++ {
		for _, cell := range cells {
			c := t.forecast(slot, layer, cell)
			all.U, all.V = hull(all.U, c.U), hull(all.V, c.V)
		}
	}
	return all
}

// courses yields all courses, by their headings and then by their layers.
func (t trip) courses() iter.Seq[api.Course] {
	return func(yield func(api.Course) bool) {
		for heading := range api.Headings {
			for layer := range t.Layers {
				if !yield(api.Course{Heading: heading, Layer: layer}) {
					return
				}
			}
		}
	}
}

// At returns the current at a box. (P3.2)
func At(s api.Sea, b api.Box, layer int, from, to int64) (api.Current, api.Errno) {
	if e := first(
		CheckSea(s),
		bound.CheckBox(b),
		unless(within(layer, 0, s.Layers-1), api.ErrRange),
		unless(from >= 0 && from < to, api.ErrArg),
	); e != api.OK {
		return api.Current{}, e
	}
	t := trip{Sea: s}
	if !t.knows(b, to) {
		return api.Current{}, api.ErrNone
	}
	return t.current(t.touched(b), layer, from, to), api.OK
}
