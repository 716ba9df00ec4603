package mooring

import "isobath/api"

// allowed is the answer to whether a span is at most a limit, by how many of
// its ends are above the limit.
var allowed = [...]api.Answer{api.Yes, api.Open, api.No}

// allows returns whether a limit allows all numbers of a span.
func allows(limit int64, a api.Span) api.Answer {
	above := 0
	for _, end := range [...]int64{a.Lo, a.Hi} {
		if end > limit {
			above++
		}
	}
	return allowed[above]
}

// Strong returns whether each element is strong enough. (P2.4)
func Strong(m api.Mooring, c []api.Span, free bool) ([]api.Answer, api.Errno) {
	tensions, e := Tensions(m, c, free)
	if e != api.OK {
		return nil, e
	}
	l := make([]api.Answer, 0, len(tensions))
	for i, x := range m.Elements {
		l = append(l, allows(x.Strength, tensions[i]))
	}
	return l, api.OK
}

// Holds returns whether the anchor holds. (P2.4)
func Holds(m api.Mooring, c []api.Span, free bool) (api.Answer, api.Errno) {
	if e := checkStanding(m, c); e != api.OK {
		return api.No, e
	}
	s := sums{free: free}
	for i, x := range m.Elements {
		s.add(x, c[i])
	}
	weight := m.Anchor - s.lift
	// Without weight it is lifted off, even if nothing pulls it aside.
	if weight <= 0 {
		return api.No, api.OK
	}
	h := s.pull()
	// The friction is in thousandths, and so is the pull.
	return allows(m.Friction*weight, api.Span{Lo: 1000 * h.Lo, Hi: 1000 * h.Hi}), api.OK
}
