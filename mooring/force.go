package mooring

import (
	"isobath/api"
	"isobath/bound"
)

// unitSpeed is the speed for which a drag is said, in mm/s.
const unitSpeed = 1000

// checkCurrents returns the error of a mooring or of its currents.
func checkCurrents(m api.Mooring, c []api.Span) api.Errno {
	if e := Check(m); e != api.OK {
		return e
	}
	if len(c) != len(m.Elements) {
		return api.ErrEqual
	}
	for _, a := range c {
		if e := bound.Check(a); e != api.OK {
			return e
		}
		if a.Lo < 0 || a.Hi > api.MaxSpeed {
			return api.ErrArg
		}
	}
	return api.OK
}

// checkStanding returns the error of a mooring that has to stand, or of its
// currents.
func checkStanding(m api.Mooring, c []api.Span) api.Errno {
	if e := checkCurrents(m, c); e != api.OK {
		return e
	}
	if !stands(m) {
		return api.ErrState
	}
	return api.OK
}

// force returns the force on an element at a span of speeds.
func force(x api.Element, speed api.Span) api.Span {
	by := over(unitSpeed*unitSpeed, unitSpeed*unitSpeed)
	return by.outward(x.Drag*speed.Lo*speed.Lo, x.Drag*speed.Hi*speed.Hi)
}

// sums is the lift of all elements from the top to one, and the forces on them.
type sums struct {
	free   bool
	lift   int64
	forces api.Span
	widest int64 // the greatest sum of both ends of one force
}

// add goes down by one element.
func (s *sums) add(x api.Element, speed api.Span) {
	f := force(x, speed)
	s.lift += x.Lift
	s.forces = api.Span{Lo: s.forces.Lo + f.Lo, Hi: s.forces.Hi + f.Hi}
	s.widest = max(s.widest, f.Lo+f.Hi)
}

// pull returns the pull below the last element.
func (s *sums) pull() api.Span {
	h := s.forces
	if s.free {
		// The Lo of a force less the Hi of all others is its Lo and its Hi less
		// the Hi of all.
		h.Lo = max(0, s.widest-h.Hi)
	}
	return h
}

// tension returns the tension below the last element.
func (s *sums) tension() api.Span { return slant(s.pull(), s.lift) }

// exactly returns the span of one number.
func exactly(x int64) api.Span { return api.Span{Lo: x, Hi: x} }

// slant returns the length of a vector with the horizontal part h and the
// vertical part v, rounded outward.
func slant(h api.Span, v int64) api.Span {
	end := api.Box{X: h, Y: exactly(v)}
	// Neither all lifts nor all forces of a mooring come near MaxPlace.
	length, _ := bound.Distance(api.Box{}, end)
	return length
}

// Forces returns the force on each element. (P2.2)
func Forces(m api.Mooring, c []api.Span) ([]api.Span, api.Errno) {
	if e := checkCurrents(m, c); e != api.OK {
		return nil, e
	}
	l := make([]api.Span, 0, len(c))
	for i, x := range m.Elements {
		l = append(l, force(x, c[i]))
	}
	return l, api.OK
}

// Pulls returns the pull below each element. (P2.2)
func Pulls(m api.Mooring, c []api.Span, free bool) ([]api.Span, api.Errno) {
	if e := checkCurrents(m, c); e != api.OK {
		return nil, e
	}
	return below(m, c, free, (*sums).pull), api.OK
}

// Tensions returns the tension below each element. (P2.2)
func Tensions(m api.Mooring, c []api.Span, free bool) ([]api.Span, api.Errno) {
	if e := checkStanding(m, c); e != api.OK {
		return nil, e
	}
	return below(m, c, free, (*sums).tension), api.OK
}

// below returns what is found below each element.
func below(m api.Mooring, c []api.Span, free bool, find func(*sums) api.Span) []api.Span {
	s := sums{free: free}
	l := make([]api.Span, 0, len(c))
	for i, x := range m.Elements {
		s.add(x, c[i])
		l = append(l, find(&s))
	}
	return l
}
