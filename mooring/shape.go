package mooring

import (
	"isobath/api"
	"isobath/bound"
)

// shape is what is known of a mooring's shape, from the top to an element.
type shape struct {
	sums
	length  int64
	offsets []api.Span
	rises   []api.Span
}

// lay adds the next element.
func (s *shape) lay(x api.Element, speed api.Span) {
	s.add(x, speed)
	h := s.pull()
	least := slant(exactly(h.Lo), s.lift)
	most := slant(exactly(h.Hi), s.lift)
	// With more pull it lies flatter: its offset is greater, its rise less.
	offset := over(least.Hi, most.Lo).outward(x.Length*h.Lo, x.Length*h.Hi)
	rise := over(most.Hi, least.Lo).outward(x.Length*s.lift, x.Length*s.lift)
	s.length += x.Length
	s.offsets = append(s.offsets, atMost(offset, x.Length))
	s.rises = append(s.rises, atMost(rise, x.Length))
}

// atMost returns a span whose upper end is no greater than a length.
func atMost(a api.Span, length int64) api.Span {
	return api.Span{Lo: a.Lo, Hi: min(a.Hi, length)}
}

// shapeOf returns the shape of a mooring, if it stands and the currents are
// valid.
func shapeOf(m api.Mooring, c []api.Span, free bool) (shape, api.Errno) {
	if e := checkStanding(m, c); e != api.OK {
		return shape{}, e
	}
	s := shape{sums: sums{free: free}}
	for i, x := range m.Elements {
		s.lay(x, c[i])
	}
	return s, api.OK
}

// total returns the sum of some offsets, or of some rises.
func total(l []api.Span) api.Span {
	var t api.Span
	for _, a := range l {
		t.Lo, t.Hi = t.Lo+a.Lo, t.Hi+a.Hi
	}
	return t
}

// Shape returns the offsets and the rises of all elements. (P2.3)
func Shape(m api.Mooring, c []api.Span, free bool) ([]api.Span, []api.Span, api.Errno) {
	s, e := shapeOf(m, c, free)
	return s.offsets, s.rises, e
}

// Top returns the depth of the top. (P2.3)
func Top(m api.Mooring, c []api.Span, free bool) (api.Span, api.Errno) {
	s, e := shapeOf(m, c, free)
	if e != api.OK {
		return api.Span{}, e
	}
	return bound.Sub(exactly(m.Depth), total(s.rises))
}

// Circle returns the watch circle. (P2.3)
func Circle(m api.Mooring, c []api.Span, free bool) (int64, api.Errno) {
	s, e := shapeOf(m, c, free)
	return total(s.offsets).Hi, e
}

// Knock returns the knock-down. (P2.3)
func Knock(m api.Mooring, c []api.Span, free bool) (api.Span, api.Errno) {
	s, e := shapeOf(m, c, free)
	if e != api.OK {
		return api.Span{}, e
	}
	return bound.Sub(exactly(s.length), total(s.rises))
}
