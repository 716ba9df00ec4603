package glider

import (
	"isobath/api"
	"isobath/bound"
)

// The spans of this layer are valid, and far from MaxValue, so that the
// functions of layer 1 return no errors for them.

// inside returns whether a box is in another one: Yes if all its points are,
// No if the boxes have no common point.
func inside(a, b api.Box) api.Answer {
	x, _ := bound.In(a.X, b.X)
	y, _ := bound.In(a.Y, b.Y)
	both, _ := bound.All([]api.Answer{x, y})
	return both
}

// anyInside returns whether any of the boxes of a run is in a box.
func anyInside(run []api.Box, b api.Box) api.Answer {
	var l []api.Answer
	for _, a := range run {
		l = append(l, inside(a, b))
	}
	one, _ := bound.Any(l)
	return one
}

// hull returns the smallest span that contains both.
func hull(a, b api.Span) api.Span {
	c, _ := bound.Hull(a, b)
	return c
}

// grown returns a span that is wider on both sides.
func grown(a api.Span, by int64) api.Span {
	c, _ := bound.Grow(a, by)
	return c
}
