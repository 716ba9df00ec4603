package bound

import "isobath/api"

// CheckBox reports whether a box is valid. (P1.1)
func CheckBox(b api.Box) api.Errno {
	for _, a := range [...]api.Span{b.X, b.Y} {
		if Check(a) != api.OK || a.Lo < -api.MaxPlace || a.Hi > api.MaxPlace {
			return api.ErrArg
		}
	}
	return api.OK
}

// checkBoxes returns the error of the first box that is not valid.
func checkBoxes(a, b api.Box) api.Errno {
	if e := CheckBox(a); e != api.OK {
		return e
	}
	return CheckBox(b)
}

// Square returns the square of the distance of two boxes. (P1.12)
func Square(a, b api.Box) (int64, int64, api.Errno) {
	if e := checkBoxes(a, b); e != api.OK {
		return 0, 0, e
	}
	x, y := apart(a.X, b.X), apart(a.Y, b.Y)
	return x.Lo*x.Lo + y.Lo*y.Lo, x.Hi*x.Hi + y.Hi*y.Hi, api.OK
}

// apart returns the span of how far a number of a and one of b are apart.
func apart(a, b api.Span) api.Span {
	return api.Span{
		Lo: max(0, b.Lo-a.Hi, a.Lo-b.Hi),
		Hi: max(b.Hi-a.Lo, a.Hi-b.Lo),
	}
}

// Distance returns the distance of two boxes. (P1.12)
func Distance(a, b api.Box) (api.Span, api.Errno) {
	lo, hi, e := Square(a, b)
	if e != api.OK {
		return api.Span{}, e
	}
	return root(api.Span{Lo: lo, Hi: hi}), api.OK
}
