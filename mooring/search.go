package mooring

import (
	"iter"
	"slices"

	"isobath/api"
	"isobath/bound"
)

// checkSearch reports whether the arguments of a search are valid.
func checkSearch(a api.Area, start []int, l []api.Hour) api.Errno {
	if len(l) > api.MaxHours {
		return api.ErrMany
	}
	if !within(a.Wide, 1, api.MaxSide) || !within(a.High, 1, api.MaxSide) || !areCells(a, start) {
		return api.ErrArg
	}
	for _, h := range l {
		if !isShift(h.East) || !isShift(h.North) || !areCells(a, h.Searched) {
			return api.ErrArg
		}
	}
	return api.OK
}

// isShift tells whether a span is one of drifts.
func isShift(a api.Span) bool {
	return bound.Check(a) == api.OK && a.Lo >= -api.MaxShift && a.Hi <= api.MaxShift
}

// areCells tells whether a list is a strictly increasing one of cells.
func areCells(a api.Area, l []int) bool {
	last := -1
	for _, cell := range l {
		if cell <= last || cell >= a.Wide*a.High {
			return false
		}
		last = cell
	}
	return true
}

// search is where an object may be: in which cells, and whether outside.
type search struct {
	area api.Area
	may  []bool
	left bool
}

// begin returns a search before its first hour.
func begin(a api.Area, start []int) *search {
	s := &search{area: a, may: make([]bool, a.Wide*a.High)}
	for _, cell := range start {
		s.may[cell] = true
	}
	return s
}

// drifts yields the column and the row where each step of an hour leads from a
// cell, also those that are not in the area.
func drifts(a api.Area, cell int, h api.Hour) iter.Seq2[int, int] {
	return func(yield func(int, int) bool) {
		for n := h.North.Lo; n <= h.North.Hi; n++ {
			for e := h.East.Lo; e <= h.East.Hi; e++ {
				if !yield(cell%a.Wide+int(e), cell/a.Wide+int(n)) {
					return
				}
			}
		}
	}
}

// pass lets an hour pass.
func (s *search) pass(h api.Hour) {
	next := make([]bool, len(s.may))
	for cell, may := range s.may {
		if !may {
			continue
		}
		for x, y := range drifts(s.area, cell, h) {
			if within(x, 0, s.area.Wide-1) && within(y, 0, s.area.High-1) {
				next[y*s.area.Wide+x] = true
			} else {
				s.left = true
			}
		}
	}
	for _, cell := range h.Searched {
		next[cell] = false
	}
	s.may = next
}

// inside tells whether the object may be in a cell.
func (s *search) inside() bool { return slices.Contains(s.may, true) }

// cells returns the cells where the object may be.
func (s *search) cells() []int {
	var l []int
	for cell, may := range s.may {
		if may {
			l = append(l, cell)
		}
	}
	return l
}

// Where returns the cells where an object may be after a search, and whether
// it may have left. (P2.7)
func Where(a api.Area, start []int, l []api.Hour) ([]int, bool, api.Errno) {
	if e := checkSearch(a, start, l); e != api.OK {
		return nil, false, e
	}
	s := begin(a, start)
	for _, h := range l {
		s.pass(h)
	}
	return s.cells(), s.left, api.OK
}

// Found returns after how many hours an object is certainly found. (P2.7)
func Found(a api.Area, start []int, l []api.Hour) (int, api.Errno) {
	if e := checkSearch(a, start, l); e != api.OK {
		return 0, e
	}
	s := begin(a, start)
	hours := 0
	// From no cell it can neither come to one nor leave.
	for ; hours < len(l) && s.inside(); hours++ {
		s.pass(l[hours])
	}
	if s.left || s.inside() {
		return 0, api.ErrNone
	}
	return hours, api.OK
}
