package clock

import (
	"slices"

	"isobath/api"
)

// before returns whether an event is before another one.
func before(a, b api.Span) api.Answer {
	switch {
	case a.Hi < b.Lo:
		return api.Yes
	case a.Lo >= b.Hi:
		return api.No
	}
	return api.Open
}

// Before returns whether an event is before another one. (P5.6)
func Before(a, b api.Span) (api.Answer, api.Errno) {
	if !exists(a) || !exists(b) {
		return api.No, api.ErrArg
	}
	return before(a, b), api.OK
}

// checkEvents returns the error of a list of time spans.
func checkEvents(l []api.Span) api.Errno {
	if len(l) > api.MaxStamps {
		return api.ErrMany
	}
	for _, a := range l {
		if !exists(a) {
			return api.ErrArg
		}
	}
	return api.OK
}

// ranks returns the first and the last rank of one of some events.
func ranks(l []api.Span, a api.Span) [2]int {
	first, last := 0, len(l)-1
	// An event is never before itself for certain.
	for _, b := range l {
		if before(b, a) == api.Yes {
			first++
		}
		if before(a, b) == api.Yes {
			last--
		}
	}
	return [2]int{first, last}
}

// Ranks returns the first and the last rank of each event. (P5.6)
func Ranks(l []api.Span) ([][2]int, api.Errno) {
	if e := checkEvents(l); e != api.OK {
		return nil, e
	}
	var all [][2]int
	for _, a := range l {
		all = append(all, ranks(l, a))
	}
	return all, api.OK
}

// Common returns the common part of time spans. (P5.6)
func Common(l []api.Span) (api.Span, api.Errno) {
	if e := checkEvents(l); e != api.OK {
		return api.Span{}, e
	}
	if len(l) == 0 {
		return api.Span{}, api.ErrNone
	}
	c := combined(slices.Values(l), l[0], meet)
	if !exists(c) {
		return api.Span{}, api.ErrNone
	}
	return c, api.OK
}
