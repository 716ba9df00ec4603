package cable

import (
	"isobath/api"
	"isobath/bound"
)

// millivolt is a mV in µV, in which mA times milliohms are.
const millivolt = 1000

// Currents returns the current in each segment. (P4.2)
func Currents(c api.Cable) ([]api.Span, api.Errno) {
	if e := Check(c); e != api.OK {
		return nil, e
	}
	return currents(c), api.OK
}

// currents returns the current in each segment of a valid cable.
func currents(c api.Cable) []api.Span {
	l := make([]api.Span, len(c.Nodes))
	for k, n := range c.Nodes {
		for j := range up(c, k) {
			// All loads together are far from MaxValue.
			l[j], _ = bound.Add(l[j], n.Load)
		}
	}
	return l
}

// Voltages returns the voltage at each node. (P4.2)
func Voltages(c api.Cable) ([]api.Span, api.Errno) {
	if e := Check(c); e != api.OK {
		return nil, e
	}
	return voltages(c), api.OK
}

// voltages returns the voltage at each node of a valid cable.
func voltages(c api.Cable) []api.Span {
	current := currents(c)
	l := make([]api.Span, len(c.Nodes))
	down(c, shore, func(k int) {
		if k == shore {
			l[k] = c.Supply
			return
		}
		n := c.Nodes[k]
		l[k] = after(l[n.Parent], drop(current[k], n.Ohms))
	})
	return l
}

// drop returns the drop of a segment.
func drop(current, ohms api.Span) api.Span {
	return outward(fraction{current.Lo * ohms.Lo, millivolt}, fraction{current.Hi * ohms.Hi, millivolt})
}

// after returns what a drop leaves of a voltage. It may be beyond MaxValue,
// where the functions of layer 1 return errors.
func after(voltage, drop api.Span) api.Span {
	return api.Span{Lo: voltage.Lo - drop.Hi, Hi: voltage.Hi - drop.Lo}
}

// answer tells what is certain, or at least possible, in three values.
func answer(certain, possible bool) api.Answer {
	switch {
	case certain:
		return api.Yes
	case possible:
		return api.Open
	}
	return api.No
}

// Within returns whether each segment is within its limit. (P4.3)
func Within(c api.Cable) ([]api.Answer, api.Errno) {
	if e := Check(c); e != api.OK {
		return nil, e
	}
	return allowed(c), api.OK
}

// allowed returns whether each segment of a valid cable is within its limit.
func allowed(c api.Cable) []api.Answer {
	var l []api.Answer
	for k, current := range currents(c) {
		limit := c.Nodes[k].Limit
		l = append(l, answer(current.Hi <= limit, current.Lo <= limit))
	}
	return l
}

// Fed returns whether each node is fed. (P4.3)
func Fed(c api.Cable) ([]api.Answer, api.Errno) {
	if e := Check(c); e != api.OK {
		return nil, e
	}
	var l []api.Answer
	for k, voltage := range voltages(c) {
		least := c.Nodes[k].Least
		l = append(l, answer(voltage.Lo >= least, voltage.Hi >= least))
	}
	return l, api.OK
}
