package field

import (
	"isobath/api"
	"isobath/bound"
)

// CheckSeen reports whether observations are valid. (P10.1)
func CheckSeen(f api.Field, l []api.Seen) api.Errno {
	if e := Check(f); e != api.OK {
		return e
	}
	if len(l) > api.MaxSeen {
		return api.ErrMany
	}
	if !all(l, func(o api.Seen) bool { return isSpot(f, o.Spot) && isSpan(o.Set) }) {
		return api.ErrArg
	}
	return api.OK
}

// isPossible tells whether values, one for each spot, are possible.
func isPossible(f api.Field, v []int64) bool {
	if !all(v, func(x int64) bool { return within(x, f.Range.Lo, f.Range.Hi) }) {
		return false
	}
	var t table
	for k, x := range v {
		t.of[k] = api.Span{Lo: x, Hi: x}
	}
	return settled(f, t)
}

// Possible reports whether values are possible. (P10.2)
func Possible(f api.Field, v []int64) (bool, api.Errno) {
	if e := Check(f); e != api.OK {
		return false, e
	}
	if len(v) != many(f) {
		return false, api.ErrEqual
	}
	return isPossible(f, v), api.OK
}

// Fits reports whether values fit observations. (P10.2)
func Fits(f api.Field, l []api.Seen, v []int64) (bool, api.Errno) {
	if e := CheckSeen(f, l); e != api.OK {
		return false, e
	}
	if len(v) != many(f) {
		return false, api.ErrEqual
	}
	seen := func(o api.Seen) bool { return within(v[number(f, o.Spot)], o.Set.Lo, o.Set.Hi) }
	return isPossible(f, v) && all(l, seen), api.OK
}

// contradiction returns the first observation that contradicts the range of a
// field, twice, or the first two that contradict each other, and whether there
// are such.
func contradiction(f api.Field, l []api.Seen) (int, int, bool) {
	for i, o := range l {
		if _, e := bound.Meet(f.Range, o.Set); e != api.OK {
			return i, i, true
		}
	}
	for i, a := range l {
		for k, b := range l {
			if a.Set.Lo-b.Set.Hi > distance(f, a.Spot, b.Spot) {
				return i, k, true
			}
		}
	}
	return 0, 0, false
}

// Contradict returns observations that contradict each other. (P10.3)
func Contradict(f api.Field, l []api.Seen) (int, int, api.Errno) {
	if e := CheckSeen(f, l); e != api.OK {
		return 0, 0, e
	}
	i, k, found := contradiction(f, l)
	if !found {
		return 0, 0, api.ErrNone
	}
	return i, k, api.OK
}
