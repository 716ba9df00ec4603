package voyage_test

import (
	"math/rand"
	"slices"
	"testing"

	"isobath/api"
	"isobath/voyage"
)

// found compares the best voyage with what is wanted, and with all orders.
func found(t *testing.T, name any, p problem, want []int, value int64, wantErr api.Errno) {
	t.Helper()
	order, v, e := voyage.Best(p.c, p.s, p.l)
	equal(t, name, order, e, want, wantErr)
	same(t, name, v, e, value, wantErr)
	best(t, p)
}

// P9.5: the chapter's example, and changes of it.
func TestBest(t *testing.T) {
	for i, x := range []struct {
		put   func(p *problem)
		want  []int
		value int64
		e     api.Errno
	}{
		{func(p *problem) {}, []int{0, 1}, 130, api.OK},
		{func(p *problem) { p.s.Berths = 3 }, []int{0, 1, 2}, 220, api.OK},
		{func(p *problem) { p.s.Berths, p.s.Wire = 3, 50 }, []int{2, 1}, 170, api.OK},
		{func(p *problem) { p.s.End = 499 }, []int{0}, 50, api.OK},
		{func(p *problem) { p.s.End = 500 }, []int{2}, 90, api.OK},
		{func(p *problem) { p.l[2].Must = true }, []int{2}, 90, api.OK},
		{func(p *problem) { p.l[1].Must = true }, []int{0, 1}, 130, api.OK},
		{func(p *problem) { p.l[1].Must, p.l[2].Must = true, true }, nil, 0, api.ErrPlan},
		{func(p *problem) { p.l[0].Must, p.l[0].Weight = true, 11 }, nil, 0, api.ErrPlan},
		{func(p *problem) { p.l[0].Must, p.l[0].Weather = true, nil }, nil, 0, api.ErrPlan},
		{func(p *problem) { p.l[0].Must, p.s.End = true, 259 }, nil, 0, api.ErrPlan},
		{func(p *problem) { p.s.Winch = 4 }, nil, 0, api.OK},
		{func(p *problem) { p.s.Home, p.s.End = 2, 199 }, nil, 0, api.ErrPlan},
		{func(p *problem) { p.s.Home, p.s.End = 2, 200 }, nil, 0, api.OK},
		{func(p *problem) { p.l = nil }, nil, 0, api.OK},
		{func(p *problem) { p.l, p.s.Home, p.s.End = nil, 1, 99 }, nil, 0, api.ErrPlan},
	} {
		found(t, i, changed(x.put), x.want, x.value, x.e)
	}
}

// P9.5: of several orders with the greatest value the one that is home first is
// the best, of those the first one in lexicographic order.
func TestBestOfSeveral(t *testing.T) {
	for i, x := range []struct {
		n    int
		put  func(p *problem)
		want []int
	}{
		{3, func(p *problem) {}, []int{0, 1, 2}},
		{2, func(p *problem) { p.l[1].Value = 0 }, []int{0}},
		{2, func(p *problem) { p.l[0].Value = 0 }, []int{0, 1}},
		{3, func(p *problem) { p.l[0].Value, p.l[1].Value = 0, 0 }, []int{0, 1, 2}},
		{3, func(p *problem) { p.l[0].Value, p.l[2].Value = 0, 0 }, []int{0, 1}},
		{2, func(p *problem) { p.l[0].Value, p.l[1].Value = 0, 0 }, nil},
		{2, func(p *problem) { p.l[0].Value, p.l[0].Minutes = 0, 1 }, []int{1}},
		{2, func(p *problem) { p.s.Wire, p.l[0].Wire, p.l[1].Wire = 1, 1, 1 }, []int{0}},
		{2, func(p *problem) { p.s.Wire, p.l[0].Wire, p.l[1].Wire, p.l[0].Minutes = 1, 1, 1, 1 }, []int{1}},
		{2, func(p *problem) { p.l[1].Must, p.l[1].Value = true, 0 }, []int{0, 1}},
		{2, func(p *problem) { p.l[0].Weather[0].Lo = 9 }, []int{0, 1}},
		{2, func(p *problem) { p.l[0].Weather[0].Lo, p.l[1].Minutes = 9, 1 }, []int{1, 0}},
		{2, func(p *problem) { p.l[0].Value, p.l[0].Weather[0].Lo = 0, 9 }, []int{1}},
	} {
		p := free(x.n)
		x.put(&p)
		value := p.value(x.want)
		found(t, i, p, x.want, value, api.OK)
	}
}

// P9.5: a first job that takes longer does no harm if the ship has to wait for the last one.
func TestBestWithWaiting(t *testing.T) {
	p := free(3)
	p.c.Travel = [][]int64{{0, 5, 9}, {5, 0, 9}, {9, 9, 0}}
	p.l[0].Site, p.l[1].Site, p.l[2].Site, p.s.Home = 2, 1, 2, 2
	found(t, "at once", p, []int{1, 0, 2}, 3, api.OK)
	p.l[2].Weather[0].Lo = 40
	found(t, "with waiting", p, []int{0, 1, 2}, 3, api.OK)
	p.l[2].Weather[0].Lo = 27
	found(t, "just in time", p, []int{0, 1, 2}, 3, api.OK)
	p.l[2].Weather[0].Lo = 26
	found(t, "just too late", p, []int{1, 0, 2}, 3, api.OK)
	p.l[2].Weather = []api.Span{span(0, 26), span(30, 30)}
	found(t, "a gap", p, []int{1, 0, 2}, 3, api.OK)
}

// P9.5: at most ten jobs.
func TestBestOfMany(t *testing.T) {
	p := free(11)
	order, value, e := voyage.Best(p.c, p.s, p.l)
	equal(t, 11, order, e, nil, api.ErrMany)
	same(t, 11, value, e, 0, api.ErrMany)
	p.l = p.l[:10]
	order, value, e = voyage.Best(p.c, p.s, p.l)
	equal(t, 10, order, e, []int{0, 1, 2, 3, 4, 5, 6, 7, 8, 9}, api.OK)
	same(t, 10, value, e, 10, api.OK)
	p.l[4].Must, p.l[4].Weight, p.s.Winch = true, 1, 0
	_, _, e = voyage.Best(p.c, p.s, p.l)
	same(t, "must", 0, e, 0, api.ErrPlan)
}

// P9.5 and P9.10: of random problems the best voyage is the best one of all orders.
func TestBestRandom(t *testing.T) {
	r := rand.New(rand.NewSource(7))
	long := 0
	for range 4000 {
		p := someProblem(r)
		if order := best(t, p); len(order) > 2 {
			long++
		}
	}
	if long < 300 {
		t.Error("few long voyages:", long)
	}
}

// P9.5: random problems in which all jobs can be done, in many orders.
func TestBestOfAllJobs(t *testing.T) {
	r := rand.New(rand.NewSource(8))
	z := size{3, 6, 2, 1, 30, 1}
	for range 300 {
		p := z.problem(r)
		p.s.End, p.s.Winch, p.s.Wire, p.s.Berths = 30, amount, amount, amount
		for i := range p.l {
			p.l[i].Zone = api.NoZone
			if r.Intn(2) == 0 {
				p.l[i].Weather = []api.Span{span(r.Int63n(20), 30)}
			}
		}
		best(t, p)
	}
}

// P9.10: the best order is possible and complete, and has its value; it is not
// less with another job that need not be done, or a later End.
func TestBestGrows(t *testing.T) {
	r := rand.New(rand.NewSource(9))
	for range 3000 {
		p := someProblem(r)
		order, value, e := voyage.Best(p.c, p.s, p.l)
		if e != api.OK {
			continue
		}
		_, _, e = voyage.Times(p.c, p.s, p.l, order)
		sum, _ := voyage.Value(p.c, p.s, p.l, order)
		if e != api.OK || sum != value || !p.complete(order) {
			t.Fatal(p, order, value, sum, e)
		}
		q := p.clone()
		q.s.End += r.Int63n(20)
		more := size{1, 1, 1, 4, 40, 9}.job(r, len(p.c.Travel), len(p.c.Zones), len(p.s.Teams))
		more.Must = false
		q.l = slices.Insert(q.l, r.Intn(len(q.l)+1), more)
		if _, greater, e := voyage.Best(q.c, q.s, q.l); e != api.OK || greater < value {
			t.Fatal(p, value, q, greater, e)
		}
	}
}

// P9.10: no order, of ten jobs, is better than the best one.
func TestBestOfTen(t *testing.T) {
	r := rand.New(rand.NewSource(10))
	z := size{24, 10, 400, 60, 4000, amount}
	for range 40 {
		p := z.problem(r)
		for len(p.l) < 10 {
			p.l = append(p.l, z.job(r, len(p.c.Travel), len(p.c.Zones), len(p.s.Teams)))
		}
		best, value, e := voyage.Best(p.c, p.s, p.l)
		_, home, _ := p.times(best)
		for range 200 {
			order, found := p.possible(r)
			if !found || !p.complete(order) {
				continue
			}
			order, _ = voyage.Extend(p.c, p.s, p.l, order)
			_, h, _ := p.times(order)
			v := p.value(order)
			before := v == value && (h < home || h == home && slices.Compare(order, best) < 0)
			if e != api.OK || v > value || before {
				t.Fatal(p, best, value, e, order)
			}
		}
	}
}
