package voyage_test

import (
	"math/rand"
	"slices"
	"testing"

	"isobath/api"
	"isobath/voyage"
)

// P9.2: the chapter's examples, and the ends of windows.
func TestFit(t *testing.T) {
	p := example()
	zoned, open := p.l[1], p.l[0]
	short := open
	short.Weather = []api.Span{span(10, 20), span(21, 80), span(90, 150), span(200, 260)}
	long := open
	long.Minutes, long.Weather = minutes, []api.Span{span(0, minutes)}
	none := open
	none.Weather = nil
	instant := open
	instant.Minutes, instant.Weather = 0, []api.Span{span(5, 5), span(9, 10)}
	for i, x := range []struct {
		j    api.Job
		from int64
		want int64
		e    api.Errno
	}{
		{zoned, 200, 300, api.OK}, {zoned, 401, 0, api.ErrNone}, {zoned, 400, 400, api.OK},
		{zoned, 0, 0, api.OK}, {zoned, 150, 150, api.OK}, {zoned, 151, 300, api.OK},
		{open, 940, 940, api.OK}, {open, 941, 0, api.ErrNone}, {open, minutes, 0, api.ErrNone},
		{open, -1, 0, api.ErrRange}, {open, minutes + 1, 0, api.ErrRange},
		{none, 0, 0, api.ErrNone}, {none, -1, 0, api.ErrRange},
		{short, 0, 90, api.OK}, {short, 90, 90, api.OK}, {short, 91, 200, api.OK}, {short, 201, 0, api.ErrNone},
		{long, 0, 0, api.OK}, {long, 1, 0, api.ErrNone},
		{instant, 0, 5, api.OK}, {instant, 6, 9, api.OK}, {instant, 10, 10, api.OK}, {instant, 11, 0, api.ErrNone},
	} {
		at, e := voyage.Fit(p.c, p.s, x.j, x.from)
		same(t, i, at, e, x.want, x.e)
	}
}

// P9.2: a job lies in one window, and not in two that follow each other.
func TestFitInOneWindow(t *testing.T) {
	p := free(1)
	j := p.l[0]
	j.Minutes, j.Weather = 10, []api.Span{span(0, 9), span(10, 19), span(20, 30)}
	at, e := voyage.Fit(p.c, p.s, j, 0)
	same(t, "one window", at, e, 20, api.OK)
	p.c.Zones, j.Zone = []api.Span{span(0, 100), span(21, 30), span(15, 30)}, 1
	at, e = voyage.Fit(p.c, p.s, j, 0)
	same(t, "the zone is too short", at, e, 0, api.ErrNone)
	j.Zone = 2
	at, e = voyage.Fit(p.c, p.s, j, 0)
	same(t, "zone", at, e, 20, api.OK)
}

// P9.2: the first fit is the first time at which the job fits.
func TestFitRandom(t *testing.T) {
	r := rand.New(rand.NewSource(2))
	for range 3000 {
		p := someProblem(r)
		for _, j := range p.l {
			from := r.Int63n(80)
			at, e := voyage.Fit(p.c, p.s, j, from)
			if want := p.fit(j, from); want < 0 {
				same(t, p, at, e, 0, api.ErrNone)
			} else {
				same(t, p, at, e, want, api.OK)
			}
		}
	}
}

// timed compares the times of an order with those that are wanted.
func timed(t *testing.T, name any, p problem, order []int, want []int64, home int64, wantErr api.Errno) {
	t.Helper()
	l, h, e := voyage.Times(p.c, p.s, p.l, order)
	equal(t, name, l, e, want, wantErr)
	same(t, name, h, e, home, wantErr)
}

// P9.3: the chapter's examples, and errors of orders.
func TestTimes(t *testing.T) {
	p := example()
	timed(t, "0 1", p, []int{0, 1}, []int64{100, 310}, 610, api.OK)
	timed(t, "1 0", p, []int{1, 0}, []int64{300, 550}, 710, api.OK)
	timed(t, "0 2", p, []int{0, 2}, nil, 0, api.ErrLimit)
	timed(t, "none", p, nil, nil, 0, api.OK)
	timed(t, "none", p, []int{}, nil, 0, api.OK)
	timed(t, "2", p, []int{2}, []int64{200}, 500, api.OK)
	timed(t, "3", p, []int{0, 3}, nil, 0, api.ErrRange)
	timed(t, "-1", p, []int{-1}, nil, 0, api.ErrRange)
	timed(t, "twice", p, []int{1, 0, 1}, nil, 0, api.ErrHave)
	timed(t, "twice, and none", p, []int{1, 1, 3}, nil, 0, api.ErrRange)
	timed(t, "many", p, make([]int, 33), nil, 0, api.ErrMany)
	timed(t, "as many as possible", p, make([]int, 32), nil, 0, api.ErrHave)
}

// P9.3: as many jobs as possible.
func TestTimesOfMany(t *testing.T) {
	p := free(32)
	var order []int
	for i := range 32 {
		order = append(order, 31-i)
	}
	timed(t, "32", p, order, make([]int64, 32), 0, api.OK)
	timed(t, "32 of 31", problem{p.c, p.s, p.l[:31]}, order, nil, 0, api.ErrRange)
}

// P9.3: each resource at its limit, and above it.
func TestResources(t *testing.T) {
	for i, x := range []struct {
		order []int
		put   func(p *problem)
		want  api.Errno
	}{
		{[]int{0, 1}, func(p *problem) { p.s.Winch = 5 }, api.OK},
		{[]int{0, 1}, func(p *problem) { p.s.Winch = 4 }, api.ErrLimit},
		{[]int{0, 1}, func(p *problem) { p.l[0].Weight = 11 }, api.ErrLimit},
		{[]int{0, 1}, func(p *problem) { p.l[1].Weight = 11 }, api.ErrLimit},
		{[]int{0, 1}, func(p *problem) { p.l[2].Weight = 11 }, api.OK},
		{[]int{0, 1}, func(p *problem) { p.s.Wire = 80 }, api.OK},
		{[]int{0, 1}, func(p *problem) { p.s.Wire = 79 }, api.ErrLimit},
		{[]int{0, 1}, func(p *problem) { p.s.Berths = 1 }, api.OK},
		{[]int{0, 1}, func(p *problem) { p.s.Berths = 0 }, api.ErrLimit},
		{[]int{0, 2}, func(p *problem) { p.s.Berths = 3 }, api.OK},
		{[]int{0, 2}, func(p *problem) { p.s.Berths, p.l[2].Team = 1, 0 }, api.OK},
		{[]int{0, 1, 2}, func(p *problem) { p.s.Berths = 3 }, api.OK},
		{[]int{2, 1, 0}, func(p *problem) { p.s.Berths, p.s.Teams = 4, []int64{2, 2} }, api.OK},
		{[]int{2, 1, 0}, func(p *problem) { p.s.Berths, p.s.Teams = 3, []int64{2, 2} }, api.ErrLimit},
		{nil, func(p *problem) { p.s.Berths, p.s.Wire, p.s.Winch = 0, 0, 0 }, api.OK},
	} {
		p := changed(x.put)
		_, _, e := voyage.Times(p.c, p.s, p.l, x.order)
		same(t, i, 0, e, 0, x.want)
	}
}

// P9.3: the ship may be home at End, but not later; it always has to travel home.
func TestHome(t *testing.T) {
	late := func(end int64) problem { return changed(func(p *problem) { p.s.End = end }) }
	timed(t, "at End", late(610), []int{0, 1}, []int64{100, 310}, 610, api.OK)
	timed(t, "late", late(609), []int{0, 1}, nil, 0, api.ErrLate)
	way := func(end int64) problem {
		return changed(func(p *problem) { p.s.From, p.s.Home, p.s.Start, p.s.End = 1, 2, 50, end })
	}
	timed(t, "no jobs", way(200), nil, nil, 200, api.OK)
	timed(t, "no jobs, late", way(199), nil, nil, 0, api.ErrLate)
	far := changed(func(p *problem) {
		p.c.Travel = [][]int64{{0, minutes}, {minutes, 0}}
		p.l = p.l[:1]
		p.s.Start, p.s.End = minutes, minutes
	})
	timed(t, "no fit after the last time", far, []int{0}, nil, 0, api.ErrNone)
}

// P9.3: the travel times of both directions, in the order of the sites.
func TestBothWays(t *testing.T) {
	p := free(2)
	p.c.Travel = [][]int64{{0, 3, 20}, {70, 0, 20}, {90, 90, 0}}
	p.l[0].Site, p.l[1].Site, p.s.Home = 1, 2, 1
	timed(t, "0 1", p, []int{0, 1}, []int64{3, 23}, 113, api.OK)
	timed(t, "1 0", p, []int{1, 0}, []int64{20, 110}, 110, api.OK)
}

// P9.3: times of random orders.
func TestTimesRandom(t *testing.T) {
	r := rand.New(rand.NewSource(3))
	seen := map[api.Errno]int{}
	for range 20000 {
		p := someProblem(r)
		order := p.someOrder(r)
		want, home, e := p.times(order)
		timed(t, p, p, order, want, home, e)
		seen[e]++
	}
	for _, e := range []api.Errno{api.OK, api.ErrLimit, api.ErrNone, api.ErrLate} {
		if seen[e] < 500 {
			t.Error(e, "is seldom:", seen)
		}
	}
}

// P9.9: the times of a possible order are right starts; no right starts begin a
// job earlier, or bring the ship home earlier.
func TestRight(t *testing.T) {
	r := rand.New(rand.NewSource(4))
	for range 5000 {
		p := someProblem(r)
		order, found := p.possible(r)
		if !found {
			continue
		}
		first, home, e := voyage.Times(p.c, p.s, p.l, order)
		n, wrong := voyage.CheckStarts(p.c, p.s, p.l, order, first)
		same(t, p, n, wrong, len(order), api.OK)
		starts, right := p.someStarts(r, order)
		_, wrong = voyage.CheckStarts(p.c, p.s, p.l, order, starts)
		same(t, p, 0, wrong, 0, right)
		if right != api.OK {
			continue
		}
		for k := range order {
			if starts[k] < first[k] {
				t.Fatal(p, order, starts, first, e)
			}
		}
		if n := len(order); n > 0 {
			j := p.l[order[n-1]]
			if starts[n-1]+j.Minutes+p.c.Travel[j.Site][p.s.Home] < home {
				t.Fatal(p, order, starts, home)
			}
		}
	}
}

// someStarts returns starts for an order at random times at which its jobs fit,
// and whether the ship can make them.
func (p problem) someStarts(r *rand.Rand, order []int) ([]int64, api.Errno) {
	var starts []int64
	site, free := p.s.From, p.s.Start
	e := api.OK
	for _, i := range order {
		j := p.l[i]
		arrival := free + p.c.Travel[site][j.Site]
		start := p.fit(j, max(0, arrival+r.Int63n(8)-2))
		if start < 0 {
			start = p.fit(j, 0)
		}
		if start < arrival {
			e = api.ErrLate
		}
		starts = append(starts, start)
		site, free = j.Site, start+j.Minutes
	}
	if e == api.OK && free+p.c.Travel[site][p.s.Home] > p.s.End {
		e = api.ErrDue
	}
	return starts, e
}

// P9.9: of all starts that are right, none is earlier than the times.
func TestRightAll(t *testing.T) {
	r := rand.New(rand.NewSource(5))
	z := size{2, 2, 2, 2, 9, 2}
	for range 400 {
		p := z.problem(r)
		order := p.someOrder(r)
		first, _, e := voyage.Times(p.c, p.s, p.l, order)
		some := false
		eachStarts(len(order), z.most, func(starts []int64) {
			if _, wrong := voyage.CheckStarts(p.c, p.s, p.l, order, starts); wrong != api.OK {
				return
			}
			some = true
			for k := range starts {
				if e == api.OK && starts[k] < first[k] {
					t.Fatal(p, order, starts, first)
				}
			}
		})
		if some != (e == api.OK) {
			t.Fatal(p, order, some, e)
		}
	}
}

// eachStarts calls a function for all lists of n times from 0 to a last one.
func eachStarts(n int, most int64, use func([]int64)) {
	if n == 0 {
		use(nil)
		return
	}
	eachStarts(n-1, most, func(l []int64) {
		for t := int64(0); t <= most; t++ {
			use(append(slices.Clone(l), t))
		}
	})
}
