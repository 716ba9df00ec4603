package cable

import (
	"iter"
	"maps"
	"slices"

	"isobath/api"
)

// hasBreaker tells whether a node has a breaker.
func hasBreaker(n api.Node) bool { return n.Delay != api.NoBreaker }

// breakers yields the nodes of a path that have a breaker.
func breakers(c api.Cable, k int) iter.Seq[int] {
	return func(yield func(int) bool) {
		for j := range up(c, k) {
			if hasBreaker(c.Nodes[j]) && !yield(j) {
				return
			}
		}
	}
}

// checkStuck returns the error of a cable, or that of breakers that are stuck.
func checkStuck(c api.Cable, stuck []int) api.Errno {
	if e := Check(c); e != api.OK {
		return e
	}
	if len(stuck) > api.MaxStuck {
		return api.ErrMany
	}
	for _, k := range stuck {
		if !isNode(c, k) || !hasBreaker(c.Nodes[k]) {
			return api.ErrArg
		}
	}
	return api.OK
}

// isSegment tells whether k is the index of a segment.
func isSegment(c api.Cable, k int) bool { return isNode(c, k) && k != shore }

// cut returns the node whose subtree is lost after a fault: that of the breaker
// that opens, or the shore end if none does.
func cut(c api.Cable, fault int, stuck []int) int {
	opens := shore
	for k := range breakers(c, fault) {
		if slices.Contains(stuck, k) {
			continue
		}
		if opens == shore || c.Nodes[k].Delay < c.Nodes[opens].Delay {
			opens = k
		}
	}
	return opens
}

// Opens returns the node of the breaker that opens. (P4.5)
func Opens(c api.Cable, fault int, stuck []int) (int, api.Errno) {
	if e := checkStuck(c, stuck); e != api.OK {
		return 0, e
	}
	if !isSegment(c, fault) {
		return 0, api.ErrRange
	}
	opens := cut(c, fault, stuck)
	if opens == shore {
		return 0, api.ErrNone
	}
	return opens, api.OK
}

// Lost returns the nodes that are lost after faults. (P4.5)
func Lost(c api.Cable, faults, stuck []int) ([]int, api.Errno) {
	if e := checkStuck(c, stuck); e != api.OK {
		return nil, e
	}
	if len(faults) > api.MaxNodes {
		return nil, api.ErrMany
	}
	for _, f := range faults {
		if !isSegment(c, f) {
			return nil, api.ErrRange
		}
	}
	lost := map[int]bool{}
	for _, f := range faults {
		if !lost[f] {
			down(c, cut(c, f, stuck), func(k int) { lost[k] = true })
		}
	}
	return slices.Sorted(maps.Keys(lost)), api.OK
}

// Coordinated reports whether a cable is coordinated. (P4.6)
func Coordinated(c api.Cable, margin int64) (int, int, api.Errno) {
	if e := Check(c); e != api.OK {
		return 0, 0, e
	}
	if !within(margin, 0, api.MaxDelay) {
		return 0, 0, api.ErrRange
	}
	for k := range c.Nodes {
		if j, found := early(c, k, margin); found {
			return k, j, api.ErrTrip
		}
	}
	return 0, 0, api.OK
}

// early returns the first of the other breakers of a path that waits for too
// short a time after that of the node k.
func early(c api.Cable, k int, margin int64) (int, bool) {
	n := c.Nodes[k]
	if !hasBreaker(n) {
		return 0, false
	}
	for j := range breakers(c, n.Parent) {
		if c.Nodes[j].Delay < n.Delay+margin {
			return j, true
		}
	}
	return 0, false
}
