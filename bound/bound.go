// Package bound is layer 1: see shared/doc/01-bound.md.
package bound

import "isobath/api"

// Check reports whether a span is valid. (P1.1)
func Check(a api.Span) api.Errno {
	if a.Lo > a.Hi || a.Lo < -api.MaxValue || a.Hi > api.MaxValue {
		return api.ErrArg
	}
	return api.OK
}

// checkBoth returns the error of the first span that is not valid.
func checkBoth(a, b api.Span) api.Errno {
	if e := Check(a); e != api.OK {
		return e
	}
	return Check(b)
}

// fitting returns a span whose ends are in order, or ErrOver if an end is beyond MaxValue.
func fitting(a api.Span) (api.Span, api.Errno) {
	if Check(a) != api.OK {
		return api.Span{}, api.ErrOver
	}
	return a, api.OK
}

// ends returns the span from the least to the greatest of some numbers.
func ends(first int64, rest ...int64) api.Span {
	s := api.Span{Lo: first, Hi: first}
	for _, x := range rest {
		s.Lo, s.Hi = min(s.Lo, x), max(s.Hi, x)
	}
	return s
}

// Add returns the sum of two spans. (P1.2)
func Add(a, b api.Span) (api.Span, api.Errno) {
	if e := checkBoth(a, b); e != api.OK {
		return api.Span{}, e
	}
	return fitting(api.Span{Lo: a.Lo + b.Lo, Hi: a.Hi + b.Hi})
}

// Sub returns the difference of two spans. (P1.2)
func Sub(a, b api.Span) (api.Span, api.Errno) {
	if e := checkBoth(a, b); e != api.OK {
		return api.Span{}, e
	}
	return fitting(api.Span{Lo: a.Lo - b.Hi, Hi: a.Hi - b.Lo})
}

// Mul returns the product of two spans. (P1.2)
func Mul(a, b api.Span) (api.Span, api.Errno) {
	if e := checkBoth(a, b); e != api.OK {
		return api.Span{}, e
	}
	return fitting(ends(a.Lo*b.Lo, a.Lo*b.Hi, a.Hi*b.Lo, a.Hi*b.Hi))
}

// Scale returns a span times n / d. (P1.3)
func Scale(a api.Span, n, d int64) (api.Span, api.Errno) {
	if e := Check(a); e != api.OK {
		return api.Span{}, e
	}
	if n < -api.MaxValue || n > api.MaxValue || d < 1 || d > api.MaxValue {
		return api.Span{}, api.ErrRange
	}
	by := divisor(d)
	return fitting(outward(by.down, by.up, ends(a.Lo*n, a.Hi*n)))
}

// Div returns the quotient of two spans. (P1.3)
func Div(a, b api.Span) (api.Span, api.Errno) {
	if e := checkBoth(a, b); e != api.OK {
		return api.Span{}, e
	}
	if b.Lo <= 0 && b.Hi >= 0 {
		return api.Span{}, api.ErrZero
	}
	return hull(quotient(a, b.Lo), quotient(a, b.Hi)), api.OK
}

// quotient returns a span divided by a number that is not 0.
func quotient(a api.Span, d int64) api.Span {
	if d < 0 {
		a, d = api.Span{Lo: -a.Hi, Hi: -a.Lo}, -d
	}
	by := divisor(d)
	return outward(by.down, by.up, a)
}

// Root returns the root of a span. (P1.4)
func Root(a api.Span) (api.Span, api.Errno) {
	if e := Check(a); e != api.OK {
		return api.Span{}, e
	}
	if a.Lo < 0 {
		return api.Span{}, api.ErrRange
	}
	return root(a), api.OK
}

// root returns the root of a span whose ends are from 0 to 2^60.
func root(a api.Span) api.Span {
	var by square
	return outward(by.down, by.up, a)
}

// Grow returns a span that is wider on both sides. (P1.4)
func Grow(a api.Span, by int64) (api.Span, api.Errno) {
	if e := Check(a); e != api.OK {
		return api.Span{}, e
	}
	if by < 0 || by > api.MaxValue {
		return api.Span{}, api.ErrRange
	}
	return fitting(api.Span{Lo: a.Lo - by, Hi: a.Hi + by})
}

// Hull returns the hull of two spans. (P1.5)
func Hull(a, b api.Span) (api.Span, api.Errno) {
	if e := checkBoth(a, b); e != api.OK {
		return api.Span{}, e
	}
	return hull(a, b), api.OK
}

// hull returns the hull of two spans whose ends are in order.
func hull(a, b api.Span) api.Span {
	return api.Span{Lo: min(a.Lo, b.Lo), Hi: max(a.Hi, b.Hi)}
}

// Meet returns the common part of two spans. (P1.5)
func Meet(a, b api.Span) (api.Span, api.Errno) {
	if e := checkBoth(a, b); e != api.OK {
		return api.Span{}, e
	}
	c := api.Span{Lo: max(a.Lo, b.Lo), Hi: min(a.Hi, b.Hi)}
	if c.Lo > c.Hi {
		return api.Span{}, api.ErrNone
	}
	return c, api.OK
}

// Line returns the span of a line at a time. (P1.6)
func Line(t0 int64, a api.Span, t1 int64, b api.Span, t int64) (api.Span, api.Errno) {
	if e := checkBoth(a, b); e != api.OK {
		return api.Span{}, e
	}
	// With t from t0 to t1, all three times are in range if both of these are.
	if t0 < 0 || t1 > api.MaxValue || t0 >= t1 || t < t0 || t > t1 {
		return api.Span{}, api.ErrRange
	}
	before, after := t-t0, t1-t
	by := divisor(t1 - t0)
	return outward(by.down, by.up, api.Span{
		Lo: a.Lo*after + b.Lo*before,
		Hi: a.Hi*after + b.Hi*before,
	}), api.OK
}
