package bound

import (
	"cmp"
	"iter"
	"slices"

	"isobath/api"
)

// CheckSet reports whether a list is normal. (P1.9)
func CheckSet(s []api.Span) api.Errno {
	if len(s) > api.MaxSpans {
		return api.ErrMany
	}
	for i, a := range s {
		if e := Check(a); e != api.OK {
			return e
		}
		if i > 0 && a.Lo-s[i-1].Hi < 2 {
			return api.ErrArg
		}
	}
	return api.OK
}

// checkSets returns the error of the first set that is not normal.
func checkSets(s, t []api.Span) api.Errno {
	if e := CheckSet(s); e != api.OK {
		return e
	}
	return CheckSet(t)
}

// fewEnough returns a normal list, or ErrMany if it is too long for a set.
func fewEnough(s []api.Span) ([]api.Span, api.Errno) {
	if len(s) > api.MaxSpans {
		return nil, api.ErrMany
	}
	return s, api.OK
}

// Cover returns the normal list of the numbers of some spans. (P1.9)
func Cover(l []api.Span) ([]api.Span, api.Errno) {
	if len(l) > api.MaxSpans {
		return nil, api.ErrMany
	}
	for _, a := range l {
		if e := Check(a); e != api.OK {
			return nil, e
		}
	}
	sorted := slices.SortedFunc(slices.Values(l), byLo)
	return merged(slices.Values(sorted), joined), api.OK
}

// Unite returns the union of two sets. (P1.10)
func Unite(s, t []api.Span) ([]api.Span, api.Errno) {
	if e := checkSets(s, t); e != api.OK {
		return nil, e
	}
	return fewEnough(merged(inOrder(s, t, byLo), joined))
}

// byLo orders spans by their lower ends.
func byLo(a, b api.Span) int { return cmp.Compare(a.Lo, b.Lo) }

// joined returns one span for two of which the first begins no later, and
// whether one contains all their whole numbers and no others.
func joined(last, next api.Span) (api.Span, bool) {
	// Between n and n + 1 there is no whole number.
	if next.Lo-last.Hi > 1 {
		return api.Span{}, false
	}
	return hull(last, next), true
}

// inOrder yields the elements of two lists, each of them in order, in order.
func inOrder[T any](s, t []T, compare func(a, b T) int) iter.Seq[T] {
	return func(yield func(T) bool) {
		i, j := 0, 0
		for i < len(s) || j < len(t) {
			var next T
			if j == len(t) || i < len(s) && compare(s[i], t[j]) <= 0 {
				next, i = s[i], i+1
			} else {
				next, j = t[j], j+1
			}
			if !yield(next) {
				return
			}
		}
	}
}

// merged returns what an iterator yields, with each element made one with the
// last one before it where join allows that.
func merged[T any](all iter.Seq[T], join func(last, next T) (T, bool)) []T {
	var l []T
	for next := range all {
		last := len(l) - 1
		if last < 0 {
			l = append(l, next)
		} else if one, ok := join(l[last], next); ok {
			l[last] = one
		} else {
			l = append(l, next)
		}
	}
	return l
}

// Cut returns the intersection of two sets. (P1.10)
func Cut(s, t []api.Span) ([]api.Span, api.Errno) {
	if e := checkSets(s, t); e != api.OK {
		return nil, e
	}
	var l []api.Span
	for i, j := 0, 0; i < len(s) && j < len(t); {
		if c, e := Meet(s[i], t[j]); e == api.OK {
			l = append(l, c)
		}
		// The span that ends first has no number in common with a later one.
		if s[i].Hi < t[j].Hi {
			i++
		} else {
			j++
		}
	}
	return fewEnough(l)
}

// Outside returns the numbers of a span that are not in a set. (P1.10)
func Outside(s []api.Span, within api.Span) ([]api.Span, api.Errno) {
	if e := CheckSet(s); e != api.OK {
		return nil, e
	}
	if e := Check(within); e != api.OK {
		return nil, e
	}
	var l []api.Span
	from := within.Lo
	for _, a := range s {
		if to := min(a.Lo-1, within.Hi); from <= to {
			l = append(l, api.Span{Lo: from, Hi: to})
		}
		from = max(from, a.Hi+1)
	}
	if from <= within.Hi {
		l = append(l, api.Span{Lo: from, Hi: within.Hi})
	}
	return fewEnough(l)
}

// Has reports whether a set contains a number. (P1.11)
func Has(s []api.Span, x int64) (bool, api.Errno) {
	if e := CheckSet(s); e != api.OK {
		return false, e
	}
	for _, a := range s {
		if a.Lo <= x && x <= a.Hi {
			return true, api.OK
		}
	}
	return false, api.OK
}

// Count returns how many numbers a set contains. (P1.11)
func Count(s []api.Span) (int64, api.Errno) {
	if e := CheckSet(s); e != api.OK {
		return 0, e
	}
	n := int64(0)
	for _, a := range s {
		n += a.Hi - a.Lo + 1
	}
	return n, api.OK
}
