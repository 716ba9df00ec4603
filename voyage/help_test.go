package voyage_test

import (
	"math/big"
	"math/rand"
	"slices"
	"testing"

	"isobath/api"
	"isobath/voyage"
)

const (
	minutes = api.MaxMinute
	amount  = api.MaxAmount
)

func span(lo, hi int64) api.Span { return api.Span{Lo: lo, Hi: hi} }

// problem is a chart, a ship and jobs.
type problem struct {
	c api.Chart
	s api.Ship
	l []api.Job
}

// example returns the problem of the chapter's examples.
func example() problem {
	return problem{
		api.Chart{
			Travel: [][]int64{{0, 100, 200}, {100, 0, 150}, {200, 150, 0}},
			Zones:  []api.Span{span(0, 500)},
		},
		api.Ship{From: 0, Home: 0, Start: 0, End: 1000, Winch: 10, Wire: 100, Berths: 2, Teams: []int64{1, 2}},
		[]api.Job{
			{Site: 1, Value: 50, Minutes: 60, Weight: 5, Wire: 40, Team: 0, Zone: api.NoZone, Weather: []api.Span{span(0, 1000)}},
			{Site: 2, Value: 80, Minutes: 100, Weight: 5, Wire: 40, Team: 0, Zone: 0, Weather: []api.Span{span(0, 250), span(300, 900)}},
			{Site: 2, Value: 90, Minutes: 100, Weight: 5, Wire: 10, Team: 1, Zone: api.NoZone, Weather: []api.Span{span(0, 1000)}},
		},
	}
}

// clone returns a problem that shares no memory with another one.
func (p problem) clone() problem {
	q := p
	q.c.Travel = nil
	for _, row := range p.c.Travel {
		q.c.Travel = append(q.c.Travel, slices.Clone(row))
	}
	q.c.Zones, q.s.Teams, q.l = slices.Clone(p.c.Zones), slices.Clone(p.s.Teams), slices.Clone(p.l)
	for i, j := range q.l {
		q.l[i].Weather = slices.Clone(j.Weather)
	}
	return q
}

// changed returns the problem of the examples with a change.
func changed(change func(p *problem)) problem {
	p := example()
	change(&p)
	return p
}

// free returns a problem without travel times and limits: n jobs of no minutes,
// each at the site 0 and with the value 1.
func free(n int) problem {
	p := problem{api.Chart{Travel: [][]int64{{0}}}, api.Ship{End: minutes, Winch: amount, Wire: amount, Berths: amount, Teams: []int64{0}}, nil}
	for range n {
		p.l = append(p.l, api.Job{Value: 1, Zone: api.NoZone, Weather: []api.Span{span(0, minutes)}})
	}
	return p
}

// equal compares a list that a function returns, and its error, with those that
// are wanted.
func equal[T comparable](t *testing.T, name any, got []T, e api.Errno, want []T, wantErr api.Errno) {
	t.Helper()
	if !slices.Equal(got, want) || e != wantErr {
		t.Fatalf("%v: %v, %v; want %v, %v", name, got, e, want, wantErr)
	}
}

// same compares what a function returns, and its error, with what is wanted.
func same[T comparable](t *testing.T, name any, got T, e api.Errno, want T, wantErr api.Errno) {
	t.Helper()
	if got != want || e != wantErr {
		t.Fatalf("%v: %v, %v; want %v, %v", name, got, e, want, wantErr)
	}
}

// equalShip compares a ship with the one that is wanted.
func equalShip(t *testing.T, name any, got, want api.Ship) {
	t.Helper()
	teams := slices.Equal(got.Teams, want.Teams)
	numbers := got.From == want.From && got.Home == want.Home && got.Start == want.Start && got.End == want.End
	gear := got.Winch == want.Winch && got.Wire == want.Wire && got.Berths == want.Berths
	if !teams || !numbers || !gear {
		t.Fatalf("%v: %v; want %v", name, got, want)
	}
}

// The chapter's definitions, as they are written.

// fits tells whether a job fits at a time.
func (p problem) fits(j api.Job, t int64) bool {
	lies := func(w api.Span) bool {
		return w.Lo <= t && t <= w.Hi && w.Lo <= t+j.Minutes && t+j.Minutes <= w.Hi
	}
	return slices.ContainsFunc(j.Weather, lies) && (j.Zone == -1 || lies(p.c.Zones[j.Zone]))
}

// last returns the last end of a window of the weather of a job.
func last(j api.Job) int64 {
	n := len(j.Weather)
	if n == 0 {
		return -1
	}
	return j.Weather[n-1].Hi
}

// fit returns the first fit of a job from a time on, or -1: it tries all times.
func (p problem) fit(j api.Job, from int64) int64 {
	for t := from; t <= last(j); t++ {
		if p.fits(j, t) {
			return t
		}
	}
	return -1
}

// enough tells whether the resources of an order are enough.
func (p problem) enough(order []int) bool {
	wire, berths, teams := int64(0), int64(0), map[int]bool{}
	for _, i := range order {
		if p.l[i].Weight > p.s.Winch {
			return false
		}
		wire += p.l[i].Wire
		teams[p.l[i].Team] = true
	}
	for k := range teams {
		berths += p.s.Teams[k]
	}
	return wire <= p.s.Wire && berths <= p.s.Berths
}

// times returns the times of an order, when the ship is home, and the error of
// an order that is not possible.
func (p problem) times(order []int) ([]int64, int64, api.Errno) {
	if !p.enough(order) {
		return nil, 0, api.ErrLimit
	}
	at, t := p.s.From, p.s.Start
	var begins []int64
	for _, i := range order {
		t = p.fit(p.l[i], t+p.c.Travel[at][p.l[i].Site])
		if t < 0 {
			return nil, 0, api.ErrNone
		}
		begins = append(begins, t)
		at, t = p.l[i].Site, t+p.l[i].Minutes
	}
	t += p.c.Travel[at][p.s.Home]
	if t > p.s.End {
		return nil, 0, api.ErrLate
	}
	return begins, t, api.OK
}

// value returns the value of an order.
func (p problem) value(order []int) int64 {
	n := int64(0)
	for _, i := range order {
		n += p.l[i].Value
	}
	return n
}

// complete tells whether an order has all jobs that must be done.
func (p problem) complete(order []int) bool {
	for i, j := range p.l {
		if j.Must && !slices.Contains(order, i) {
			return false
		}
	}
	return true
}

// orders calls a function for all orders that begin with an order, in
// lexicographic order, as long as resources are enough and jobs have first fits.
func (p problem) orders(order []int, use func(order []int)) {
	if _, _, e := p.times(order); e == api.ErrLimit || e == api.ErrNone {
		return
	}
	use(order)
	for i := range p.l {
		if !slices.Contains(order, i) {
			p.orders(append(slices.Clone(order), i), use)
		}
	}
}

// best returns the best voyage and its value, by all orders.
func (p problem) best() ([]int, int64, api.Errno) {
	var found []int
	value, home, e := int64(0), int64(0), api.ErrPlan
	p.orders(nil, func(order []int) {
		_, h, wrong := p.times(order)
		if wrong != api.OK || !p.complete(order) {
			return
		}
		v := p.value(order)
		if e != api.OK || v > value || v == value && h < home {
			found, value, home, e = order, v, h, api.OK
		}
	})
	return found, value, e
}

// inserted returns an order with a job inserted at a position.
func inserted(order []int, at, job int) []int {
	l := append([]int{}, order[:at]...)
	l = append(l, job)
	return append(l, order[at:]...)
}

// extended returns an order that is extended.
func (p problem) extended(order []int) []int {
	best, home := []int(nil), int64(0)
	value := int64(-1)
	for i, j := range p.l {
		if slices.Contains(order, i) {
			continue
		}
		for at := 0; at <= len(order); at++ {
			l := inserted(order, at, i)
			_, h, e := p.times(l)
			if e == api.OK && (j.Value > value || j.Value == value && h < home) {
				best, home, value = l, h, j.Value
			}
		}
	}
	if value < 0 {
		return order
	}
	return p.extended(best)
}

// cost returns the least cost of a job.
func (p problem) cost(i int) int64 {
	travel := p.c.Travel[p.s.From][p.l[i].Site]
	for k := range p.l {
		if k != i {
			travel = min(travel, p.c.Travel[p.l[k].Site][p.l[i].Site])
		}
	}
	return travel + p.l[i].Minutes
}

// bound returns the bound by a rate.
func (p problem) bound(n, d int64) int64 {
	product := func(a, b int64) *big.Int { return new(big.Int).Mul(big.NewInt(a), big.NewInt(b)) }
	sum := product(n, p.s.End-p.s.Start)
	for i, j := range p.l {
		if x := product(d, j.Value); x.Cmp(product(n, p.cost(i))) > 0 {
			sum.Add(sum, x.Sub(x, product(n, p.cost(i))))
		}
	}
	return new(big.Int).Div(sum, big.NewInt(d)).Int64()
}

// rate returns the best rate and its bound.
func (p problem) rate() (int64, int64, int64) {
	n, d, least := int64(0), int64(1), p.bound(0, 1)
	for i, j := range p.l {
		c := p.cost(i)
		if c <= 0 || j.Value <= 0 || c > 1<<20 {
			continue
		}
		if b := p.bound(j.Value, c); b < least {
			n, d, least = j.Value, c, b
		}
	}
	return n, d, least
}

// Random problems.

// size is how great random problems are: their sites, jobs, minutes on the way,
// minutes of a job, minutes of all, and amounts.
type size struct {
	sites, jobs        int
	travel, work, most int64
	amounts            int64
}

// sizes returns sizes of problems that often have several best voyages, and of
// those that seldom do.
func sizes() []size {
	return []size{{1, 4, 1, 3, 12, 2}, {3, 5, 3, 4, 25, 3}, {4, 5, 8, 8, 60, 6}, {5, 6, 20, 20, 150, 50}, {3, 3, 2, 2, 8, 2}, {6, 5, 1, 0, 10, 1}}
}

// charted returns random travel times in which no way over a third site is shorter.
func (z size) charted(r *rand.Rand) [][]int64 {
	n := 1 + r.Intn(z.sites)
	rows := make([][]int64, n)
	for a := range rows {
		rows[a] = make([]int64, n)
		for b := range rows {
			if a != b {
				rows[a][b] = r.Int63n(z.travel + 1)
			}
		}
	}
	for by := range rows {
		for a := range rows {
			for b := range rows {
				rows[a][b] = min(rows[a][b], rows[a][by]+rows[by][b])
			}
		}
	}
	return rows
}

// windows returns random windows, each later than the one before it.
func (z size) windows(r *rand.Rand) []api.Span {
	if r.Intn(3) == 0 {
		return []api.Span{span(0, z.most)}
	}
	var l []api.Span
	for t := r.Int63n(z.most/3 + 1); t <= z.most && len(l) < 16; {
		hi := min(t+r.Int63n(z.most/2+1), z.most)
		l = append(l, span(t, hi))
		t = hi + 1 + r.Int63n(z.most/4+1)
	}
	return l
}

// job returns a random job.
func (z size) job(r *rand.Rand, sites, zones, teams int) api.Job {
	j := api.Job{
		Site: r.Intn(sites), Value: r.Int63n(z.amounts + 1), Minutes: r.Int63n(z.work + 1), Weight: r.Int63n(10), Wire: r.Int63n(20),
		Team: r.Intn(teams), Zone: r.Intn(zones+1) - 1, Weather: z.windows(r), Must: r.Intn(8) == 0,
	}
	return j
}

// problem returns a random problem.
func (z size) problem(r *rand.Rand) problem {
	p := problem{c: api.Chart{Travel: z.charted(r)}}
	n, zones, teams := len(p.c.Travel), r.Intn(3), 1+r.Intn(4)
	for range zones {
		lo := r.Int63n(z.most/3 + 1)
		p.c.Zones = append(p.c.Zones, span(lo, lo+r.Int63n(z.most-lo+1)))
	}
	start := r.Int63n(z.most/4 + 1)
	p.s = api.Ship{
		From: r.Intn(n), Home: r.Intn(n), Start: start, End: start + r.Int63n(z.most-start+1),
		Winch: 7 + r.Int63n(4), Wire: 10 + r.Int63n(80), Berths: r.Int63n(12),
	}
	for range teams {
		p.s.Teams = append(p.s.Teams, r.Int63n(5))
	}
	for range r.Intn(z.jobs + 1) {
		p.l = append(p.l, z.job(r, n, zones, teams))
	}
	return p
}

// someProblem returns a random problem of any of the sizes.
func someProblem(r *rand.Rand) problem {
	l := sizes()
	return l[r.Intn(len(l))].problem(r)
}

// someOrder returns a random order of some jobs.
func (p problem) someOrder(r *rand.Rand) []int {
	return r.Perm(len(p.l))[:r.Intn(len(p.l)+1)]
}

// possible returns a random possible order, if it finds one.
func (p problem) possible(r *rand.Rand) ([]int, bool) {
	for range 10 {
		order := p.someOrder(r)
		if _, _, e := p.times(order); e == api.OK {
			return order, true
		}
	}
	return nil, false
}

// best asks for the best voyage of a problem.
func best(t *testing.T, p problem) []int {
	t.Helper()
	order, value, e := voyage.Best(p.c, p.s, p.l)
	want, worth, wantErr := p.best()
	equal(t, p, order, e, want, wantErr)
	same(t, p, value, e, worth, wantErr)
	return order
}
