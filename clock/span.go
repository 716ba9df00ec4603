package clock

import (
	"cmp"
	"iter"
	"math"

	"isobath/api"
)

// The spans of this layer may have ends beyond MaxValue, where those of package
// bound end.

// within tells whether x is from lo to hi.
func within[T cmp.Ordered](x, lo, hi T) bool { return lo <= x && x <= hi }

// isTime tells whether a number is a time.
func isTime(t int64) bool { return within(t, 0, api.MaxInstant) }

// everything returns the span of all numbers.
func everything() api.Span { return api.Span{Lo: math.MinInt64, Hi: math.MaxInt64} }

// exists tells whether there is a number in a span.
func exists(a api.Span) bool { return a.Lo <= a.Hi }

// meet returns the common part of two spans, which need not exist.
func meet(a, b api.Span) api.Span {
	return api.Span{Lo: max(a.Lo, b.Lo), Hi: min(a.Hi, b.Hi)}
}

// grown returns a span that is wider on both sides.
func grown(a api.Span, by int64) api.Span {
	return api.Span{Lo: a.Lo - by, Hi: a.Hi + by}
}

// combined returns what join makes of a first value and all that follow.
func combined[T any](all iter.Seq[T], first T, join func(a, b T) T) T {
	for next := range all {
		first = join(first, next)
	}
	return first
}
