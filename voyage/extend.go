package voyage

import (
	"iter"
	"slices"

	"isobath/api"
)

// insertion is a job that can be inserted at a position of an order, and when the
// ship is home after that.
type insertion struct {
	job  int
	at   int
	home int64
}

// insertions yields all insertions into an order after which it stays possible,
// by their jobs and positions.
func (p trip) insertions(order []int) iter.Seq[insertion] {
	return func(yield func(insertion) bool) {
		for i := range p.jobs {
			if slices.Contains(order, i) {
				continue
			}
			for at := range len(order) + 1 {
				_, home, e := p.sail(slices.Insert(slices.Clone(order), at, i))
				if e == api.OK && !yield(insertion{i, at, home}) {
					return
				}
			}
		}
	}
}

// first returns the first element that is yielded of those than which none is
// better, if there is one.
func first[T any](seq iter.Seq[T], better func(a, b T) bool) (T, bool) {
	var best T
	found := false
	for x := range seq {
		if !found || better(x, best) {
			best, found = x, true
		}
	}
	return best, found
}

// extend returns an order, which has to be possible, with further jobs.
func (p trip) extend(order []int) []int {
	better := func(a, b insertion) bool {
		if p.jobs[a.job].Value != p.jobs[b.job].Value {
			return p.jobs[a.job].Value > p.jobs[b.job].Value
		}
		return a.home < b.home
	}
	longer := slices.Clone(order)
	for {
		x, found := first(p.insertions(longer), better)
		if !found {
			return longer
		}
		longer = slices.Insert(longer, x.at, x.job)
	}
}

// Extend returns an order with further jobs. (P9.6)
func Extend(c api.Chart, s api.Ship, l []api.Job, order []int) ([]int, api.Errno) {
	p, _, e := checked(c, s, l, order)
	if e != api.OK {
		return nil, e
	}
	return p.extend(order), api.OK
}
