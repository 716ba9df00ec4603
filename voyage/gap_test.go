package voyage_test

import (
	"math/rand"
	"testing"

	"isobath/api"
	"isobath/voyage"
)

// bounded compares a bound with what is wanted.
func bounded(t *testing.T, name any, p problem, n, d, want int64, wantErr api.Errno) {
	t.Helper()
	b, e := voyage.Bound(p.c, p.s, p.l, n, d)
	same(t, name, b, e, want, wantErr)
}

// rated compares the best rate with what is wanted.
func rated(t *testing.T, name any, p problem, n, d, bound int64, wantErr api.Errno) {
	t.Helper()
	gotN, gotD, gotBound, e := voyage.Rate(p.c, p.s, p.l)
	equal(t, name, []int64{gotN, gotD, gotBound}, e, []int64{n, d, bound}, wantErr)
}

// gapped compares a gap with what is wanted.
func gapped(t *testing.T, name any, p problem, order []int, want int64, wantErr api.Errno) {
	t.Helper()
	gap, e := voyage.Gap(p.c, p.s, p.l, order)
	same(t, name, gap, e, want, wantErr)
}

// P9.7: the chapter's examples, and rates at their limits.
func TestBound(t *testing.T) {
	p := example()
	bounded(t, "0 / 1", p, 0, 1, 220, api.OK)
	bounded(t, "0 / 7", p, 0, 7, 220, api.OK)
	bounded(t, "1 / 2", p, 1, 2, 570, api.OK)
	bounded(t, "2 / 3", p, 2, 3, 703, api.OK)
	bounded(t, "greatest", p, amount, 1, 1000*amount, api.OK)
	bounded(t, "least", p, 1, amount, 220, api.OK)
	for _, n := range []int64{-1, amount + 1, 1 << 62, -1 << 63} {
		bounded(t, n, p, n, 1, 0, api.ErrRange)
	}
	for _, d := range []int64{0, -1, amount + 1, 1<<63 - 1, -1 << 63} {
		bounded(t, d, p, 1, d, 0, api.ErrRange)
	}
	bounded(t, "no jobs", problem{p.c, p.s, nil}, 3, 2, 1500, api.OK)
	bounded(t, "no budget", changed(func(p *problem) { p.s.Start = 1000 }), 1, 2, 70, api.OK)
}

// costly returns a problem whose only job has a cost.
func costly(value, minutes int64) problem {
	p := free(1)
	p.l[0].Value, p.l[0].Minutes, p.s.End = value, minutes, 0
	return p
}

// P9.7: the least cost of a job, from the nearest site.
func TestCost(t *testing.T) {
	p := costly(100, 7)
	p.c.Travel = [][]int64{{0, 10, 18}, {70, 0, 8}, {90, 80, 0}}
	p.l[0].Site = 1
	bounded(t, "from From", p, 1, 1, 83, api.OK)
	p.s.From = 2
	bounded(t, "from From", p, 1, 1, 13, api.OK)
	p.s.From = 1
	bounded(t, "at From", p, 1, 1, 93, api.OK)
	p.s.From = 2
	p.l = append(p.l, p.l[0])
	p.l[1].Value, p.l[1].Site = 0, 0
	bounded(t, "from another job", p, 1, 1, 83, api.OK)
	p.l[1].Site = 2
	bounded(t, "from one that is farther", p, 1, 1, 13, api.OK)
	p.l[1].Site = 1
	bounded(t, "at another job", p, 1, 1, 93, api.OK)
}

// P9.7: sums are those of true numbers, also for the greatest values and costs.
func TestGreatBounds(t *testing.T) {
	p := free(32)
	p.c.Travel = [][]int64{{0, minutes}, {minutes, 0}}
	for i := range p.l {
		p.l[i].Value = amount
	}
	bounded(t, "values", p, 0, amount, 32*amount, api.OK)
	bounded(t, "budget", p, amount, 1, amount*minutes+32*amount, api.OK)
	for i := range p.l {
		p.l[i].Site, p.l[i].Minutes = 1, minutes
	}
	bounded(t, "costs", p, amount, 1, amount*minutes, api.OK)
	bounded(t, "costs", p, 1, amount, 16+32*amount-32*16, api.OK)
	p.l = p.l[:1]
	bounded(t, "cost", p, amount, amount, minutes, api.OK)
}

// P9.7: the chapter's example, and which rates are taken.
func TestRate(t *testing.T) {
	rated(t, "example", example(), 0, 1, 220, api.OK)
	rated(t, "no jobs", problem{example().c, example().s, nil}, 0, 1, 0, api.OK)
	rated(t, "no budget", costly(5, 7), 5, 7, 0, api.OK)
	rated(t, "not reduced", costly(6, 4), 6, 4, 0, api.OK)
	rated(t, "no value", costly(0, 7), 0, 1, 0, api.OK)
	rated(t, "no cost", costly(5, 0), 0, 1, 5, api.OK)
	rated(t, "greatest cost", costly(5, amount), 5, amount, 0, api.OK)
	rated(t, "cost too great", costly(5, amount+1), 0, 1, 5, api.OK)
	short := costly(5, 7)
	short.s.End = 6
	rated(t, "less than the cost", short, 5, 7, 4, api.OK)
	short.s.End = 7
	rated(t, "0 / 1 comes first", short, 0, 1, 5, api.OK)
	two := costly(6, 4)
	two.l = append(two.l, two.l[0])
	two.l[0].Value, two.l[0].Minutes = 3, 2
	rated(t, "the first one of equal rates", two, 3, 2, 0, api.OK)
	two.l[0].Value = 2
	rated(t, "a rate that is too low", two, 6, 4, 0, api.OK)
}

// P9.7: the chapter's example, and errors of the order.
func TestGap(t *testing.T) {
	p := example()
	gapped(t, "0 1", p, []int{0, 1}, 90, api.OK)
	gapped(t, "none", p, nil, 220, api.OK)
	gapped(t, "2", p, []int{2}, 130, api.OK)
	gapped(t, "0 2", p, []int{0, 2}, 0, api.ErrLimit)
	gapped(t, "3", p, []int{3}, 0, api.ErrRange)
	gapped(t, "twice", p, []int{0, 0}, 0, api.ErrHave)
	gapped(t, "many", p, make([]int, 33), 0, api.ErrMany)
	gapped(t, "late", changed(func(p *problem) { p.s.End = 609 }), []int{0, 1}, 0, api.ErrLate)
	gapped(t, "no fit", changed(func(p *problem) { p.s.Start = 301 }), []int{1}, 0, api.ErrNone)
	gapped(t, "all", free(9), []int{8, 1, 2, 3, 4, 5, 6, 7, 0}, 0, api.OK)
	short := costly(5, 7)
	short.s.End = 6
	gapped(t, "too short", short, nil, 4, api.OK)
}

// P9.7 and P9.11: random bounds, best rates and gaps; no possible order has a
// value greater than any bound.
func TestBoundRandom(t *testing.T) {
	r := rand.New(rand.NewSource(12))
	rates := 0
	for range 4000 {
		p := someProblem(r)
		n, d, least := p.rate()
		rated(t, p, p, n, d, least, api.OK)
		if n > 0 {
			rates++
		}
		_, value, e := voyage.Best(p.c, p.s, p.l)
		for range 4 {
			n, d := r.Int63n(12), 1+r.Int63n(12)
			if r.Intn(4) == 0 {
				n, d = r.Int63n(amount+1), 1+r.Int63n(amount)
			}
			want := p.bound(n, d)
			bounded(t, p, p, n, d, want, api.OK)
			if e == api.OK && value > want {
				t.Fatal(p, n, d, want, value)
			}
		}
		order, found := p.possible(r)
		if !found {
			continue
		}
		gap := least - p.value(order)
		gapped(t, p, p, order, gap, api.OK)
		if gap < 0 || e == api.OK && value-p.value(order) > gap {
			t.Fatal(p, order, gap, value)
		}
	}
	if rates < 300 {
		t.Error("few rates above 0:", rates)
	}
}
