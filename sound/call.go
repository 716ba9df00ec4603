package sound

import (
	"isobath/api"
	"isobath/bound"
)

// isLength tells whether a number is a least length of calls.
func isLength(n int) bool { return within(n, 1, api.MaxTrack) }

// Loud returns the loudness of the samples of a track. (P7.1)
func Loud(l []api.Span, h int64) ([]api.Answer, api.Errno) {
	if len(l) > api.MaxTrack {
		return nil, api.ErrMany
	}
	for _, a := range l {
		if e := bound.Check(a); e != api.OK {
			return nil, e
		}
	}
	if !within(h, -api.MaxValue, api.MaxValue) {
		return nil, api.ErrRange
	}
	var loud []api.Answer
	for _, a := range l {
		loud = append(loud, atLeast(a, h))
	}
	return loud, api.OK
}

// Calls returns the number of calls of a choice. (P7.1)
func Calls(choice []bool, n int) (int, api.Errno) {
	if len(choice) > api.MaxTrack {
		return 0, api.ErrMany
	}
	if !isLength(n) {
		return 0, api.ErrRange
	}
	calls, run := 0, 0
	for _, on := range choice {
		if !on {
			run = 0
			continue
		}
		run++
		// A longer series counts no more than once.
		if run == n {
			calls++
		}
	}
	return calls, api.OK
}

// checkAnswers returns the error of answers and a least length.
func checkAnswers(l []api.Answer, n int) api.Errno {
	if len(l) > api.MaxTrack {
		return api.ErrMany
	}
	for _, x := range l {
		if !within(x, api.No, api.Yes) {
			return api.ErrArg
		}
	}
	if !isLength(n) {
		return api.ErrRange
	}
	return api.OK
}

// Count returns the least and the greatest number of calls. (P7.2)
func Count(l []api.Answer, n int) (api.Span, api.Errno) {
	if e := checkAnswers(l, n); e != api.OK {
		return api.Span{}, e
	}
	_, least := sought[fewer](l, n)
	_, greatest := sought[more](l, n)
	return api.Span{Lo: int64(least), Hi: int64(greatest)}, api.OK
}

// Fewest returns a choice with the fewest calls. (P7.2)
func Fewest(l []api.Answer, n int) ([]bool, api.Errno) {
	if e := checkAnswers(l, n); e != api.OK {
		return nil, e
	}
	choice, _ := sought[fewer](l, n)
	return choice, api.OK
}

// Most returns a choice with the most calls. (P7.2)
func Most(l []api.Answer, n int) ([]bool, api.Errno) {
	if e := checkAnswers(l, n); e != api.OK {
		return nil, e
	}
	choice, _ := sought[more](l, n)
	return choice, api.OK
}
