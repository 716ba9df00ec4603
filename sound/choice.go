package sound

import "isobath/api"

// order tells which one of two numbers of calls is sought.
type order interface {
	better(a, b int) bool
}

type fewer struct{}

func (fewer) better(a, b int) bool { return a < b }

type more struct{}

func (more) better(a, b int) bool { return a > b }

// The run of a choice is how many of its last elements are true. From the least
// length on, it counts as just this: however long it grows, it is one call.

// ending is the best one of the choices that end with the same run: its calls,
// and the run that it ended with before its last element.
type ending struct {
	possible bool
	calls    int
	before   int
}

// offer puts an ending into a table, in the place of one that is not better.
func offer[O order](table []ending, run int, x ending) {
	var by O
	if old := table[run]; !old.possible || by.better(x.calls, old.calls) {
		table[run] = x
	}
}

// extend fills an empty table with the endings of a table, by their runs, that
// have one element more.
func extend[O order](before []ending, x api.Answer, table []ending) {
	n := len(table) - 1
	for run, e := range before {
		if !e.possible {
			continue
		}
		if x != api.Yes {
			offer[O](table, 0, ending{true, e.calls, run})
		}
		if x == api.No {
			continue
		}
		calls := e.calls
		if run+1 == n {
			calls++
		}
		offer[O](table, min(run+1, n), ending{true, calls, run})
	}
}

// sought returns a choice that fits and has the best number of calls, and this
// number.
func sought[O order](l []api.Answer, n int) ([]bool, int) {
	table := make([]ending, n+1)
	table[0].possible = true
	var tables [][]ending
	for _, x := range l {
		before := make([]ending, len(table))
		copy(before, table)
		tables = append(tables, before)
		clear(table)
		extend[O](before, x, table)
	}
	tables = append(tables, table)
	last := make([]ending, 1)
	for run, e := range table {
		if e.possible {
			offer[O](last, 0, ending{true, e.calls, run})
		}
	}
	return traced(tables, last[0].before), last[0].calls
}

// traced returns the choice that ends with a run, by the tables before the first
// and after each element.
func traced(tables [][]ending, run int) []bool {
	choice := make([]bool, len(tables)-1)
	for i := len(choice) - 1; i >= 0; i-- {
		choice[i] = run > 0
		run = tables[i+1][run].before
	}
	return choice
}
