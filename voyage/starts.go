package voyage

import "isobath/api"

// question asks whether something is wrong with the start at a position, and has
// the error of it.
type question struct {
	wrong func(k int) bool
	fault api.Errno
}

// ready returns where and from when on the ship is free for the position k of an
// order with given starts.
func (p trip) ready(order []int, starts []int64, k int) (int, int64) {
	if k == 0 {
		return p.ship.From, p.ship.Start
	}
	j := p.jobs[order[k-1]]
	return j.Site, starts[k-1] + j.Minutes
}

// ask returns the first position for which the first possible question about
// starts says that it is wrong.
func (p trip) ask(order []int, starts []int64) (int, api.Errno) {
	// A start that fits is a time: so what is asked after that cannot overflow.
	table := []question{
		{func(k int) bool {
			return !p.fits(p.jobs[order[k]], starts[k])
		}, api.ErrRule},
		{func(k int) bool {
			site, free := p.ready(order, starts, k)
			return starts[k] < free+p.chart.Travel[site][p.jobs[order[k]].Site]
		}, api.ErrLate},
	}
	for _, q := range table {
		for k := range order {
			if q.wrong(k) {
				return k, q.fault
			}
		}
	}
	if p.home(p.ready(order, starts, len(order))) > p.ship.End {
		return len(order), api.ErrDue
	}
	return len(order), api.OK
}

// CheckStarts reports whether starts are right for an order. (P9.4)
func CheckStarts(c api.Chart, s api.Ship, l []api.Job, order []int, starts []int64) (int, api.Errno) {
	p, e := check(c, s, l, order)
	switch {
	case e != api.OK:
		return 0, e
	case len(starts) != len(order):
		return 0, api.ErrEqual
	case !p.enough(order):
		return 0, api.ErrLimit
	}
	return p.ask(order, starts)
}

// value returns the value of an order.
func (p trip) value(order []int) int64 {
	var sum int64
	for _, i := range order {
		sum += p.jobs[i].Value
	}
	return sum
}

// Value returns the value of an order. (P9.4)
func Value(c api.Chart, s api.Ship, l []api.Job, order []int) (int64, api.Errno) {
	p, e := check(c, s, l, order)
	if e != api.OK {
		return 0, e
	}
	return p.value(order), api.OK
}
