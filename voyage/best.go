package voyage

import (
	"iter"

	"isobath/api"
)

// state is which jobs are done, and which one of them was done last (or none).
type state struct {
	done set
	last int
}

// none is the last job of a state in which no job is done.
const none = -1

// times are times for states in which the ship is free.
type times map[state]int64

// goal is the value of a voyage, and when the ship is home.
type goal struct {
	value int64
	home  int64
}

// site returns where the ship is free after a job.
func (p trip) site(last int) int {
	if last == none {
		return p.ship.From
	}
	return p.jobs[last].Site
}

// members returns the indexes of jobs in a set.
func (p trip) members(s set) []int {
	var l []int
	for i := range p.jobs {
		if s.has(i) {
			l = append(l, i)
		}
	}
	return l
}

// lasts yields the states that some times have of those with the same jobs done.
func (p trip) lasts(t times, done set) iter.Seq[state] {
	return func(yield func(state) bool) {
		for last := none; last < len(p.jobs); last++ {
			s := state{done, last}
			if _, known := t[s]; known && !yield(s) {
				return
			}
		}
	}
}

// nexts yields the jobs that are not done in a state, with the states after them.
func (p trip) nexts(s state) iter.Seq2[api.Job, state] {
	return func(yield func(api.Job, state) bool) {
		for i, j := range p.jobs {
			if !s.done.has(i) && !yield(j, state{s.done.with(i), i}) {
				return
			}
		}
	}
}

// earliest returns when the ship can first be free in each state that it can
// reach with enough resources.
func (p trip) earliest() times {
	t := times{{0, none}: p.ship.Start}
	// Each set of jobs comes after all its parts.
	for done := range set(1) << len(p.jobs) {
		for s := range p.lasts(t, done) {
			for j, next := range p.nexts(s) {
				begin, found := p.begin(p.site(s.last), t[s], j)
				if !found || !p.enough(p.members(next.done)) {
					continue
				}
				free := begin + j.Minutes
				if before, known := t[next]; !known || free < before {
					t[next] = free
				}
			}
		}
	}
	return t
}

// complete tells whether all jobs that must be done are done.
func (p trip) complete(done set) bool {
	for i, j := range p.jobs {
		if j.Must && !done.has(i) {
			return false
		}
	}
	return true
}

// goals yields what the possible and complete orders reach.
func (p trip) goals(earliest times) iter.Seq[goal] {
	return func(yield func(goal) bool) {
		for done := range set(1) << len(p.jobs) {
			if !p.complete(done) {
				continue
			}
			for s := range p.lasts(earliest, done) {
				g := goal{p.value(p.members(done)), p.home(p.site(s.last), earliest[s])}
				if g.home <= p.ship.End && !yield(g) {
					return
				}
			}
		}
	}
}

// ends tells whether an order that ends in a state has the value of a goal.
func (p trip) ends(s state, g goal) bool {
	return p.complete(s.done) && p.value(p.members(s.done)) == g.value
}

// latest returns when the ship has to be free at last in each state from which it
// can still reach a goal.
func (p trip) latest(earliest times, g goal) times {
	t := times{}
	whole := set(1)<<len(p.jobs) - 1
	// Each set of jobs comes before all its parts.
	for undone := range whole + 1 {
		for s := range p.lasts(earliest, whole^undone) {
			site := p.site(s.last)
			if p.ends(s, g) {
				t[s] = g.home - p.chart.Travel[site][p.ship.Home]
			}
			for j, next := range p.nexts(s) {
				due, known := t[next]
				begin, found := p.lastFit(j, due-j.Minutes)
				if !known || !found {
					continue
				}
				free := begin - p.chart.Travel[site][j.Site]
				if before, known := t[s]; !known || before < free {
					t[s] = free
				}
			}
		}
	}
	return t
}

// walk returns the first one, in lexicographic order, of the orders that reach a
// goal. Their jobs may begin later than in the order by which the ship is first
// free, as long as it has to wait afterwards.
func (p trip) walk(latest times, g goal) []int {
	var order []int
	s, free := state{0, none}, p.ship.Start
	// Where the value is reached the ship can be home in time without more jobs,
	// as no way over their sites is shorter.
search:
	for !p.ends(s, g) {
		for j, next := range p.nexts(s) {
			due, known := latest[next]
			begin, found := p.begin(p.site(s.last), free, j)
			if known && found && begin+j.Minutes <= due {
				order = append(order, next.last)
				s, free = next, begin+j.Minutes
				continue search
			}
		}
		return nil
	}
	return order
}

// Best returns the best voyage. (P9.5)
func Best(c api.Chart, s api.Ship, l []api.Job) ([]int, int64, api.Errno) {
	if e := CheckJobs(c, s, l); e != api.OK {
		return nil, 0, e
	}
	if len(l) > api.MaxExact {
		return nil, 0, api.ErrMany
	}
	p := trip{c, s, l}
	earliest := p.earliest()
	g, found := first(p.goals(earliest), func(a, b goal) bool {
		return a.value > b.value || a.value == b.value && a.home < b.home
	})
	if !found {
		return nil, 0, api.ErrPlan
	}
	return p.walk(p.latest(earliest, g), g), g.value, api.OK
}
