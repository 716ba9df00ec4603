package bound

import "isobath/api"

// Less returns whether a is less than b. (P1.7)
func Less(a, b api.Span) (api.Answer, api.Errno) {
	if e := checkBoth(a, b); e != api.OK {
		return api.No, e
	}
	switch {
	case a.Hi < b.Lo:
		return api.Yes, api.OK
	case a.Lo >= b.Hi:
		return api.No, api.OK
	}
	return api.Open, api.OK
}

// In returns whether a is in b. (P1.7)
func In(a, b api.Span) (api.Answer, api.Errno) {
	if e := checkBoth(a, b); e != api.OK {
		return api.No, e
	}
	switch {
	case b.Lo <= a.Lo && a.Hi <= b.Hi:
		return api.Yes, api.OK
	case a.Hi < b.Lo || b.Hi < a.Lo:
		return api.No, api.OK
	}
	return api.Open, api.OK
}

// checkAnswer reports whether an answer is one of the three.
func checkAnswer(x api.Answer) api.Errno {
	if x < api.No || x > api.Yes {
		return api.ErrArg
	}
	return api.OK
}

// checkAnswers reports whether a list has only answers, and not too many.
func checkAnswers(l []api.Answer) api.Errno {
	if len(l) > api.MaxList {
		return api.ErrMany
	}
	for _, x := range l {
		if e := checkAnswer(x); e != api.OK {
			return e
		}
	}
	return api.OK
}

// All returns all of some answers. (P1.8)
func All(l []api.Answer) (api.Answer, api.Errno) {
	if e := checkAnswers(l); e != api.OK {
		return api.No, e
	}
	least := api.Yes
	for _, x := range l {
		least = min(least, x)
	}
	return least, api.OK
}

// Any returns any of some answers. (P1.8)
func Any(l []api.Answer) (api.Answer, api.Errno) {
	if e := checkAnswers(l); e != api.OK {
		return api.No, e
	}
	greatest := api.No
	for _, x := range l {
		greatest = max(greatest, x)
	}
	return greatest, api.OK
}

// Not returns the opposite of an answer. (P1.8)
func Not(x api.Answer) (api.Answer, api.Errno) {
	if e := checkAnswer(x); e != api.OK {
		return api.No, e
	}
	return api.Yes - x, api.OK
}
