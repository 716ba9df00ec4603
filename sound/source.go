package sound

import (
	"isobath/api"
	"isobath/bound"
)

// leastNet is how many stations a net has at least.
const leastNet = 2

// perSecond is how many milliseconds a second has.
const perSecond = 1000

// CheckNet reports whether a net is valid. (P7.3)
func CheckNet(n api.Net) api.Errno {
	if !within(len(n.Stations), leastNet, api.MaxNet) {
		return api.ErrArg
	}
	for _, b := range n.Stations {
		if e := bound.CheckBox(b); e != api.OK {
			return e
		}
	}
	if !exists(n.Speed) || n.Speed.Lo < 1 || n.Speed.Hi > api.MaxSound {
		return api.ErrArg
	}
	return api.OK
}

// travel returns the travel time between two valid boxes.
func travel(speed api.Span, a, b api.Box) api.Span {
	d, _ := bound.Distance(a, b)
	return api.Span{
		Lo: perSecond * d.Lo / speed.Hi,
		Hi: (perSecond*d.Hi + speed.Lo - 1) / speed.Lo,
	}
}

// Travel returns the travel time from a box to a station. (P7.3)
func Travel(n api.Net, b api.Box, station int) (api.Span, api.Errno) {
	if e := CheckNet(n); e != api.OK {
		return api.Span{}, e
	}
	if e := bound.CheckBox(b); e != api.OK {
		return api.Span{}, e
	}
	if !isStation(n, station) {
		return api.Span{}, api.ErrRange
	}
	return travel(n.Speed, b, n.Stations[station]), api.OK
}

// isStation tells whether a number is the index of a station.
func isStation(n api.Net, station int) bool { return within(station, 0, len(n.Stations)-1) }

// heard is a valid net, with what has arrived at its stations.
type heard struct {
	net      api.Net
	arrivals []api.Span
}

// hear returns a net with its arrivals, or the error of these or of a box.
func hear(n api.Net, a []api.Span, b api.Box) (heard, api.Errno) {
	if e := CheckNet(n); e != api.OK {
		return heard{}, e
	}
	if len(a) != len(n.Stations) {
		return heard{}, api.ErrEqual
	}
	for _, arrival := range a {
		if !isTimeSpan(arrival) {
			return heard{}, api.ErrArg
		}
	}
	if e := bound.CheckBox(b); e != api.OK {
		return heard{}, e
	}
	return heard{n, a}, api.OK
}

// originBy returns the origin of a box by a station.
func (h heard) originBy(station int, b api.Box) api.Span {
	t, arrival := travel(h.net.Speed, b, h.net.Stations[station]), h.arrivals[station]
	return api.Span{Lo: arrival.Lo - t.Hi, Hi: arrival.Hi - t.Lo}
}

// origin returns the origin of a box, which exists if the box is not excluded.
func (h heard) origin(b api.Box) api.Span {
	o := h.originBy(0, b)
	for station := range h.arrivals {
		o = meet(o, h.originBy(station, b))
	}
	return o
}

// exclude tells whether a box is excluded by two stations.
func (h heard) exclude(i, k int, b api.Box) bool {
	return !exists(meet(h.originBy(i, b), h.originBy(k, b)))
}

// Origin returns the origin of a box. (P7.4)
func Origin(n api.Net, a []api.Span, b api.Box) (api.Span, api.Errno) {
	h, e := hear(n, a, b)
	if e != api.OK {
		return api.Span{}, e
	}
	o := h.origin(b)
	if !exists(o) {
		return api.Span{}, api.ErrNone
	}
	return o, api.OK
}

// Excluded returns two stations by which a box is excluded. (P7.5)
func Excluded(n api.Net, a []api.Span, b api.Box) (int, int, api.Errno) {
	h, e := hear(n, a, b)
	if e != api.OK {
		return 0, 0, e
	}
	for k := range n.Stations {
		for i := range k {
			if h.exclude(i, k, b) {
				return i, k, api.OK
			}
		}
	}
	return 0, 0, api.ErrNone
}

// CheckExcluded reports whether a box is excluded by two stations. (P7.5)
func CheckExcluded(n api.Net, a []api.Span, b api.Box, i, k int) api.Errno {
	h, e := hear(n, a, b)
	if e != api.OK {
		return e
	}
	if !isStation(n, i) || !isStation(n, k) {
		return api.ErrRange
	}
	if !h.exclude(i, k, b) {
		return api.ErrSum
	}
	return api.OK
}
