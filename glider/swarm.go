package glider

import (
	"isobath/api"
	"isobath/bound"
)

// checkRuns returns the errors of the runs of a swarm.
func checkRuns(runs [][]api.Box) api.Errno {
	if len(runs) > api.MaxSwarm {
		return api.ErrMany
	}
	for _, run := range runs {
		if len(run) > api.MaxDives {
			return api.ErrMany
		}
	}
	for _, run := range runs {
		if e := checkBoxes(run); e != api.OK {
			return e
		}
	}
	return api.OK
}

// visited returns whether a cell was visited by some runs.
func visited(cell api.Box, runs [][]api.Box) api.Answer {
	// All boxes of a swarm may be more than a list of answers can have.
	var l []api.Answer
	for _, run := range runs {
		l = append(l, anyInside(run, cell))
	}
	one, _ := bound.Any(l)
	return one
}

// Visited returns which cells some runs have visited. (P3.11)
func Visited(s api.Sea, runs [][]api.Box) ([]api.Answer, api.Errno) {
	if e := first(CheckSea(s), checkRuns(runs)); e != api.OK {
		return nil, e
	}
	t := trip{Sea: s}
	var l []api.Answer
	for c := range s.NX * s.NY {
		l = append(l, visited(t.cell(c), runs))
	}
	return l, api.OK
}
