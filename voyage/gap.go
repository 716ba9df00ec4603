package voyage

import "isobath/api"

// rate is a rate n / d.
type rate struct{ n, d int64 }

// cost returns the least cost of a job.
func (p trip) cost(i int) int64 {
	site := p.jobs[i].Site
	travel := p.chart.Travel[p.ship.From][site]
	for k, j := range p.jobs {
		if k != i {
			travel = min(travel, p.chart.Travel[j.Site][site])
		}
	}
	return travel + p.jobs[i].Minutes
}

// bound returns the bound by a rate. No sum in it is greater than 2^51.
func (p trip) bound(r rate) int64 {
	sum := r.n * (p.ship.End - p.ship.Start)
	for i, j := range p.jobs {
		sum += max(0, r.d*j.Value-r.n*p.cost(i))
	}
	return sum / r.d
}

// rates returns the rates of which the best one is taken.
func (p trip) rates() []rate {
	l := []rate{{0, 1}}
	for i, j := range p.jobs {
		if d := p.cost(i); j.Value > 0 && within(d, 1, api.MaxAmount) {
			l = append(l, rate{j.Value, d})
		}
	}
	return l
}

// bestRate returns the best rate, and its bound.
func (p trip) bestRate() (rate, int64) {
	type bounded struct {
		rate  rate
		bound int64
	}
	seq := func(yield func(bounded) bool) {
		for _, r := range p.rates() {
			if !yield(bounded{r, p.bound(r)}) {
				return
			}
		}
	}
	best, _ := first(seq, func(a, b bounded) bool { return a.bound < b.bound })
	return best.rate, best.bound
}

// Bound returns the bound by a rate. (P9.7)
func Bound(c api.Chart, s api.Ship, l []api.Job, n, d int64) (int64, api.Errno) {
	if e := CheckJobs(c, s, l); e != api.OK {
		return 0, e
	}
	if !isAmount(n) || d == 0 || !isAmount(d) {
		return 0, api.ErrRange
	}
	return trip{c, s, l}.bound(rate{n, d}), api.OK
}

// Rate returns the best rate and its bound. (P9.7)
func Rate(c api.Chart, s api.Ship, l []api.Job) (int64, int64, int64, api.Errno) {
	if e := CheckJobs(c, s, l); e != api.OK {
		return 0, 0, 0, e
	}
	r, most := trip{c, s, l}.bestRate()
	return r.n, r.d, most, api.OK
}

// Gap returns the gap of an order. (P9.7)
func Gap(c api.Chart, s api.Ship, l []api.Job, order []int) (int64, api.Errno) {
	p, _, e := checked(c, s, l, order)
	if e != api.OK {
		return 0, e
	}
	_, most := p.bestRate()
	return most - p.value(order), api.OK
}
