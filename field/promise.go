package field

import "isobath/api"

// promised returns what an observation at a spot with an error promises.
func (t table) promised(f api.Field, s api.Spot, e int64) int64 {
	sum := int64(0)
	for k, other := range spots(f) {
		sum += min(width(t.of[k]), e+2*distance(f, s, other))
	}
	return sum
}

// isError tells whether a number is an error of an observation.
func isError(e int64) bool { return within(e, 0, api.MaxValue) }

// Promise returns what an observation promises. (P10.7)
func Promise(f api.Field, l []api.Seen, s api.Spot, e int64) (int64, api.Errno) {
	t, wrong := known(f, l)
	if wrong != api.OK {
		return 0, wrong
	}
	if !isSpot(f, s) || !isError(e) {
		return 0, api.ErrRange
	}
	return t.promised(f, s, e), api.OK
}

// Next returns the next observation. (P10.7)
func Next(f api.Field, l []api.Seen, e int64) (api.Spot, int64, api.Errno) {
	t, wrong := known(f, l)
	if wrong != api.OK {
		return api.Spot{}, 0, wrong
	}
	if !isError(e) {
		return api.Spot{}, 0, api.ErrRange
	}
	next, least := api.Spot{}, int64(0)
	for k, s := range spots(f) {
		if sum := t.promised(f, s, e); k == 0 || sum < least {
			next, least = s, sum
		}
	}
	return next, least, api.OK
}
