package field

import (
	"iter"
	"slices"

	"isobath/api"
)

// table has a span for each spot of a field, by its number; behind these its
// spans are zero.
type table struct {
	of [api.MaxGrid * api.MaxGrid * api.MaxMoments]api.Span
}

// meet returns the common part of two spans that have one.
func meet(a, b api.Span) api.Span {
	return api.Span{Lo: max(a.Lo, b.Lo), Hi: min(a.Hi, b.Hi)}
}

// grow returns a span that is wider on both sides.
func grow(a api.Span, by int64) api.Span {
	return api.Span{Lo: a.Lo - by, Hi: a.Hi + by}
}

// width returns how wide a span is.
func width(a api.Span) int64 { return a.Hi - a.Lo }

// near yields the spots beside a spot, with their distances from it: the
// neighbouring cells, and the same cell at the moments before and after.
func near(f api.Field, s api.Spot) iter.Seq2[api.Spot, int64] {
	column, row := s.Cell%f.Wide, s.Cell/f.Wide
	beside := []struct {
		there bool
		spot  api.Spot
		far   int64
	}{
		{column > 0, api.Spot{Moment: s.Moment, Cell: s.Cell - 1}, f.Space},
		{column < f.Wide-1, api.Spot{Moment: s.Moment, Cell: s.Cell + 1}, f.Space},
		{row > 0, api.Spot{Moment: s.Moment, Cell: s.Cell - f.Wide}, f.Space},
		{row < f.High-1, api.Spot{Moment: s.Moment, Cell: s.Cell + f.Wide}, f.Space},
		{s.Moment > 0, api.Spot{Moment: s.Moment - 1, Cell: s.Cell}, f.Change},
		{s.Moment < f.Last, api.Spot{Moment: s.Moment + 1, Cell: s.Cell}, f.Change},
	}
	return func(yield func(api.Spot, int64) bool) {
		for _, b := range beside {
			if b.there && !yield(b.spot, b.far) {
				return
			}
		}
	}
}

// spread returns a table whose spans are cut to what those beside them allow.
func spread(f api.Field, t table) table {
	for k, s := range spots(f) {
		for beside, far := range near(f, s) {
			t.of[k] = meet(t.of[k], grow(t.of[number(f, beside)], far))
		}
	}
	return t
}

// settled tells whether no span of a table can be cut by those beside it.
func settled(f api.Field, t table) bool { return spread(f, t).of == t.of }

// sets returns the sets of all spots by observations that are consistent. A
// distance is that of the steps from spot to spot, so what an observation tells
// is passed on step by step, until it changes nothing more.
func sets(f api.Field, l []api.Seen) table {
	var t table
	for k := range spots(f) {
		t.of[k] = f.Range
	}
	for _, o := range l {
		k := number(f, o.Spot)
		t.of[k] = meet(t.of[k], o.Set)
	}
	for next := spread(f, t); next.of != t.of; next = spread(f, t) {
		t = next
	}
	return t
}

// known returns the sets of all spots by observations, or why there are none.
func known(f api.Field, l []api.Seen) (table, api.Errno) {
	if e := CheckSeen(f, l); e != api.OK {
		return table{}, e
	}
	if _, _, found := contradiction(f, l); found {
		return table{}, api.ErrSum
	}
	return sets(f, l), api.OK
}

// Sets returns the sets of all spots, by their numbers. (P10.4)
func Sets(f api.Field, l []api.Seen) ([]api.Span, api.Errno) {
	t, e := known(f, l)
	if e != api.OK {
		return nil, e
	}
	return slices.Clone(t.of[:many(f)]), api.OK
}
