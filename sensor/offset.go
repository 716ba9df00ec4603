package sensor

import (
	"iter"
	"math"
	"slices"

	"isobath/api"
)

// day is how many minutes a rate is said for.
const day = 1440

// The spans of this layer may have ends beyond MaxValue, where those of package
// bound end.

// everything returns the span of all numbers.
func everything() api.Span { return api.Span{Lo: math.MinInt64, Hi: math.MaxInt64} }

// meet returns the common part of two spans, which need not exist.
func meet(a, b api.Span) api.Span {
	return api.Span{Lo: max(a.Lo, b.Lo), Hi: min(a.Hi, b.Hi)}
}

// grown returns a span that is wider on both sides by the reach of a rate for
// the distance of two times.
func grown(a api.Span, rate, t, u int64) api.Span {
	distance := max(t-u, u-t)
	reach := (rate*distance + day - 1) / day
	return api.Span{Lo: a.Lo - reach, Hi: a.Hi + reach}
}

// period returns the time of the last cleaning until t, and that of the first
// one after it; without them, times that leave out no event.
func period(l []api.Event, t int64) (from, to int64) {
	from, to = 0, api.MaxTime+1
	for _, e := range l {
		if e.Kind != api.EventClean {
			continue
		}
		if e.At <= t {
			from = max(from, e.At)
		} else {
			to = min(to, e.At)
		}
	}
	return from, to
}

// counting yields the indexes of the events that count for a time.
func counting(l []api.Event, t int64) iter.Seq[int] {
	from, to := period(l, t)
	return func(yield func(int) bool) {
		for i, e := range l {
			if from <= e.At && e.At < to && !yield(i) {
				return
			}
		}
	}
}

// Counting returns the events that count. (P6.2)
func Counting(s api.Sensor, t int64) ([]int, api.Errno) {
	if e := Check(s); e != api.OK {
		return nil, e
	}
	if !isUpTo(t, api.MaxTime) {
		return nil, api.ErrRange
	}
	return slices.Collect(counting(s.Events, t)), api.OK
}

// offset returns the offset of a valid sensor at a time, or why there is none.
func offset(s api.Sensor, t int64) (api.Span, api.Errno) {
	o := everything()
	for i := range counting(s.Events, t) {
		event := s.Events[i]
		o = meet(o, grown(event.Offset, s.Drift, event.At, t))
	}
	switch {
	case o == everything():
		return api.Span{}, api.ErrNone
	case o.Lo > o.Hi:
		return api.Span{}, api.ErrSum
	}
	return o, api.OK
}

// Offset returns the offset at a time. (P6.2)
func Offset(s api.Sensor, t int64) (api.Span, api.Errno) {
	if e := Check(s); e != api.OK {
		return api.Span{}, e
	}
	if !isUpTo(t, api.MaxTime) {
		return api.Span{}, api.ErrRange
	}
	return offset(s, t)
}
