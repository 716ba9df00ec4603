package voyage

import (
	"iter"

	"isobath/api"
)

// openings yields, in order of time, from when to when a job can begin: one span
// for each window of its weather that is long enough, together with its zone.
func (p trip) openings(j api.Job) iter.Seq[api.Span] {
	return func(yield func(api.Span) bool) {
		for _, w := range j.Weather {
			if j.Zone != api.NoZone {
				zone := p.chart.Zones[j.Zone]
				w = api.Span{Lo: max(w.Lo, zone.Lo), Hi: min(w.Hi, zone.Hi)}
			}
			w.Hi -= j.Minutes
			if w.Lo <= w.Hi && !yield(w) {
				return
			}
		}
	}
}

// fits tells whether a job fits at a time.
func (p trip) fits(j api.Job, t int64) bool {
	for w := range p.openings(j) {
		if within(t, w.Lo, w.Hi) {
			return true
		}
	}
	return false
}

// firstFit returns the first fit of a job from a time on, if it has one.
func (p trip) firstFit(j api.Job, from int64) (int64, bool) {
	for w := range p.openings(j) {
		if from <= w.Hi {
			return max(from, w.Lo), true
		}
	}
	return 0, false
}

// lastFit returns the last time up to a time at which a job fits, if there is one.
func (p trip) lastFit(j api.Job, to int64) (int64, bool) {
	last, found := int64(0), false
	for w := range p.openings(j) {
		if w.Lo <= to {
			last, found = min(to, w.Hi), true
		}
	}
	return last, found
}

// Fit returns the first fit of a job. (P9.2)
func Fit(c api.Chart, s api.Ship, j api.Job, from int64) (int64, api.Errno) {
	if e := CheckJobs(c, s, []api.Job{j}); e != api.OK {
		return 0, e
	}
	if !isTime(from) {
		return 0, api.ErrRange
	}
	t, found := trip{chart: c, ship: s}.firstFit(j, from)
	if !found {
		return 0, api.ErrNone
	}
	return t, api.OK
}

// begin returns when the ship, free at a site from a time on, begins a job, if it can.
func (p trip) begin(site int, free int64, j api.Job) (int64, bool) {
	return p.firstFit(j, free+p.chart.Travel[site][j.Site])
}

// home returns when the ship is home, if it is free at a site from a time on.
func (p trip) home(site int, free int64) int64 {
	return free + p.chart.Travel[site][p.ship.Home]
}

// enough tells whether the resources of jobs, by their indexes, are enough.
func (p trip) enough(order []int) bool {
	var wire, berths int64
	var teams set
	for _, i := range order {
		j := p.jobs[i]
		if j.Weight > p.ship.Winch {
			return false
		}
		wire += j.Wire
		if !teams.has(j.Team) {
			teams = teams.with(j.Team)
			berths += p.ship.Teams[j.Team]
		}
	}
	return wire <= p.ship.Wire && berths <= p.ship.Berths
}

// sail returns the times of an order, and when the ship is home.
func (p trip) sail(order []int) ([]int64, int64, api.Errno) {
	if !p.enough(order) {
		return nil, 0, api.ErrLimit
	}
	var begins []int64
	site, free := p.ship.From, p.ship.Start
	for _, i := range order {
		t, found := p.begin(site, free, p.jobs[i])
		if !found {
			return nil, 0, api.ErrNone
		}
		begins = append(begins, t)
		site, free = p.jobs[i].Site, t+p.jobs[i].Minutes
	}
	home := p.home(site, free)
	if home > p.ship.End {
		return nil, 0, api.ErrLate
	}
	return begins, home, api.OK
}

// checked returns a trip, and the times of an order for it.
func checked(c api.Chart, s api.Ship, l []api.Job, order []int) (trip, []int64, api.Errno) {
	p, e := check(c, s, l, order)
	if e != api.OK {
		return trip{}, nil, e
	}
	begins, _, e := p.sail(order)
	return p, begins, e
}

// Times returns the times of an order. (P9.3)
func Times(c api.Chart, s api.Ship, l []api.Job, order []int) ([]int64, int64, api.Errno) {
	p, e := check(c, s, l, order)
	if e != api.OK {
		return nil, 0, e
	}
	return p.sail(order)
}
