package cable

import (
	"slices"

	"isobath/api"
	"isobath/bound"
)

const (
	kilometre = 1000    // m: the By of MeasureOhms is said for it
	echo      = 2000000 // ns in a ms, for the way there and back
	fastest   = 300000  // m in a ms
	maxLength = 1 << 20 // m of a segment
)

// measure is a measurement that is valid.
type measure api.Measure

// fits tells whether the numbers of a measurement are those that its kind
// allows.
func fits(m api.Measure) bool {
	switch m.Kind {
	case api.MeasureOhms:
		return isPart(m.Value, 0, api.MaxOhms) && isPart(m.By, 1, api.MaxOhms)
	case api.MeasureEcho:
		return isPart(m.Value, 0, api.MaxNanos) && isPart(m.By, 1, fastest)
	case api.MeasureFar:
		return isPart(m.Value, 0, api.MaxValue) && isPart(m.By, 0, api.MaxValue)
	}
	return false
}

func (m measure) byOhms() api.Span {
	return outward(fraction{kilometre * m.Value.Lo, m.By.Hi}, fraction{kilometre * m.Value.Hi, m.By.Lo})
}

func (m measure) byEcho() api.Span {
	return outward(fraction{m.Value.Lo * m.By.Lo, echo}, fraction{m.Value.Hi * m.By.Hi, echo})
}

func (m measure) fromFar() api.Span {
	// The difference of numbers from 0 to MaxValue is not beyond it.
	d, _ := bound.Sub(m.By, m.Value)
	return d
}

// distance returns the distance of a measurement, which may be beyond MaxValue.
func (m measure) distance() api.Span {
	by := [...]func(measure) api.Span{
		api.MeasureOhms: measure.byOhms,
		api.MeasureEcho: measure.byEcho,
		api.MeasureFar:  measure.fromFar,
	}
	return by[m.Kind](m)
}

// Distance returns the distance of a measurement. (P4.7)
func Distance(m api.Measure) (api.Span, api.Errno) {
	if !fits(m) {
		return api.Span{}, api.ErrArg
	}
	d := measure(m).distance()
	if bound.Check(d) != api.OK {
		return api.Span{}, api.ErrOver
	}
	return d, api.OK
}

// Locate returns the place of a fault. (P4.7)
func Locate(l []api.Measure) (api.Span, api.Errno) {
	if len(l) == 0 {
		return api.Span{}, api.ErrNone
	}
	if len(l) > api.MaxMeasures {
		return api.Span{}, api.ErrMany
	}
	var distances []api.Span
	for _, m := range l {
		d, e := Distance(m)
		if e != api.OK {
			return api.Span{}, e
		}
		distances = append(distances, d)
	}
	return common(distances)
}

// common returns the common part of spans, of which there is at least one.
func common(l []api.Span) (api.Span, api.Errno) {
	all := l[0]
	for _, a := range l[1:] {
		part, e := bound.Meet(all, a)
		if e != api.OK {
			return api.Span{}, api.ErrSum
		}
		all = part
	}
	return all, api.OK
}

// areLengths tells whether a list has valid lengths of segments.
func areLengths(l []int64) bool { return areUpTo(l, maxLength) && l[shore] == 0 }

// Segments returns the segments that may contain a fault. (P4.8)
func Segments(c api.Cable, lengths []int64, k int, place api.Span) ([]int, api.Errno) {
	if e := Check(c); e != api.OK {
		return nil, e
	}
	if len(lengths) != len(c.Nodes) {
		return nil, api.ErrEqual
	}
	if !isNode(c, k) {
		return nil, api.ErrRange
	}
	if !areLengths(lengths) || bound.Check(place) != api.OK {
		return nil, api.ErrArg
	}
	return touched(lengths, route(c, k), place), api.OK
}

// route returns the segments of the route to a node.
func route(c api.Cable, k int) []int {
	path := slices.Collect(up(c, k))
	slices.Reverse(path)
	// The shore end, which comes first, has no real segment.
	return path[1:]
}

// touched returns the segments of a route in which there is a number of a
// place.
func touched(lengths []int64, route []int, place api.Span) []int {
	var l []int
	begin := int64(0)
	for _, k := range route {
		end := begin + lengths[k]
		if _, e := bound.Meet(api.Span{Lo: begin, Hi: end}, place); e == api.OK {
			l = append(l, k)
		}
		begin = end
	}
	return l
}
