package clock

import "isobath/api"

// house is the clocks of a sound house.
type house []clock

// enter returns the clocks of a sound house, or the error of CheckHouse.
func enter(l []api.Clock) (house, api.Errno) {
	if !within(len(l), 1, api.MaxClocks) {
		return nil, api.ErrMany
	}
	var h house
	for _, c := range l {
		known, e := learn(c)
		if e != api.OK {
			return nil, e
		}
		h = append(h, known)
	}
	if !h.joined() {
		return nil, api.ErrArg
	}
	if !h.sound() {
		return nil, api.ErrNone
	}
	return h, api.OK
}

// joined tells whether each clock has Root or a clock before it as its parent.
func (h house) joined() bool {
	for k, c := range h {
		if c.parent >= k {
			return false
		}
	}
	return true
}

// sound tells whether all clocks are.
func (h house) sound() bool {
	for _, c := range h {
		if !c.sound() {
			return false
		}
	}
	return true
}

// CheckHouse reports whether clocks are a sound house. (P5.5)
func CheckHouse(l []api.Clock) api.Errno {
	_, e := enter(l)
	return e
}

// up returns what the parent shows while a clock shows a span of readings.
func (c clock) up(a api.Span) api.Span {
	return api.Span{Lo: a.Lo + c.at(a.Lo).Lo, Hi: a.Hi + c.at(a.Hi).Hi}
}

// time returns the true time of a stamp, or the error of Time.
func (h house) time(s api.Stamp) (api.Span, api.Errno) {
	if !within(s.Clock, 0, len(h)-1) || !isTime(s.At) {
		return api.Span{}, api.ErrRange
	}
	shown := api.Span{Lo: s.At, Hi: s.At}
	for k := s.Clock; k != api.Root; k = h[k].parent {
		shown = h[k].up(shown)
	}
	return shown, api.OK
}

// Time returns the true time of a stamp. (P5.5)
func Time(l []api.Clock, s api.Stamp) (api.Span, api.Errno) {
	h, e := enter(l)
	if e != api.OK {
		return api.Span{}, e
	}
	return h.time(s)
}

// Times returns the true times of stamps. (P5.5)
func Times(l []api.Clock, s []api.Stamp) ([]api.Span, api.Errno) {
	h, e := enter(l)
	if e != api.OK {
		return nil, e
	}
	if len(s) > api.MaxStamps {
		return nil, api.ErrMany
	}
	var times []api.Span
	for _, stamp := range s {
		t, e := h.time(stamp)
		if e != api.OK {
			return nil, e
		}
		times = append(times, t)
	}
	return times, api.OK
}
