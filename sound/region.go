package sound

import (
	"iter"

	"isobath/api"
)

// maxParts is how many parts a box has at most.
const maxParts = 4

// halves yields the parts of a side: two that share its middle, or the side
// itself if its ends are the same.
func halves(a api.Span) iter.Seq[api.Span] {
	return func(yield func(api.Span) bool) {
		if a.Lo == a.Hi {
			yield(a)
			return
		}
		// A shift rounds down also below 0.
		middle := (a.Lo + a.Hi) >> 1
		if yield(api.Span{Lo: a.Lo, Hi: middle}) {
			yield(api.Span{Lo: middle, Hi: a.Hi})
		}
	}
}

// parts yields the parts of a box.
func parts(b api.Box) iter.Seq[api.Box] {
	return func(yield func(api.Box) bool) {
		for y := range halves(b.Y) {
			for x := range halves(b.X) {
				if !yield(api.Box{X: x, Y: y}) {
					return
				}
			}
		}
	}
}

// region is the boxes of a region as it grows, and what was heard.
type region struct {
	heard heard
	boxes []api.Box
}

// grow adds the regions of the first ones of an array of boxes.
func (r *region) grow(boxes [maxParts]api.Box, many, depth int) {
	for _, b := range boxes[:many] {
		if !exists(r.heard.origin(b)) {
			continue
		}
		if depth == 0 {
			r.boxes = append(r.boxes, b)
			continue
		}
		var divided [maxParts]api.Box
		n := 0
		for part := range parts(b) {
			divided[n] = part
			n++
		}
		r.grow(divided, n, depth-1)
	}
}

// Region returns the boxes in which a source may be. (P7.6)
func Region(n api.Net, a []api.Span, area api.Box, depth int) ([]api.Box, api.Errno) {
	h, e := hear(n, a, area)
	if e != api.OK {
		return nil, e
	}
	if !within(depth, 0, api.MaxDepth) {
		return nil, api.ErrRange
	}
	r := region{heard: h}
	r.grow([maxParts]api.Box{area}, 1, depth)
	return r.boxes, api.OK
}
