package voyage_test

import (
	"math"
	"math/rand"
	"testing"

	"isobath/api"
	"isobath/voyage"
)

// started compares what is wrong with starts with what is wanted.
func started(t *testing.T, name any, p problem, order []int, starts []int64, want int, wantErr api.Errno) {
	t.Helper()
	n, e := voyage.CheckStarts(p.c, p.s, p.l, order, starts)
	same(t, name, n, e, want, wantErr)
}

// P9.4: starts that are right, and those that are not.
func TestCheckStarts(t *testing.T) {
	p := example()
	for i, x := range []struct {
		order  []int
		starts []int64
		want   int
		e      api.Errno
	}{
		{[]int{0, 1}, []int64{100, 310}, 2, api.OK},
		{[]int{0, 1}, []int64{190, 400}, 2, api.OK},
		{[]int{0, 1}, []int64{191, 400}, 1, api.ErrLate},
		{[]int{0, 1}, []int64{99, 310}, 0, api.ErrLate},
		{[]int{0, 1}, []int64{99, 0}, 0, api.ErrLate},
		{[]int{0, 1}, []int64{100, 309}, 1, api.ErrLate},
		{[]int{0, 1}, []int64{99, 299}, 1, api.ErrRule},
		{[]int{0, 1}, []int64{100, 401}, 1, api.ErrRule},
		{[]int{0, 1}, []int64{-1, 401}, 0, api.ErrRule},
		{[]int{0, 1}, []int64{941, 310}, 0, api.ErrRule},
		{[]int{0}, []int64{840}, 1, api.OK},
		{[]int{0}, []int64{841}, 1, api.ErrDue},
		{[]int{2}, []int64{700}, 1, api.OK},
		{[]int{2}, []int64{701}, 1, api.ErrDue},
		{[]int{1, 0}, []int64{400, 840}, 2, api.OK},
		{[]int{1, 0}, []int64{400, 841}, 2, api.ErrDue},
		{nil, nil, 0, api.OK},
		{[]int{}, []int64{}, 0, api.OK},
		{nil, []int64{0}, 0, api.ErrEqual},
		{[]int{0}, nil, 0, api.ErrEqual},
		{[]int{0, 1}, []int64{100, 310, 900}, 0, api.ErrEqual},
		{[]int{0, 2}, []int64{100}, 0, api.ErrEqual},
		{[]int{0, 2}, []int64{100, 310}, 0, api.ErrLimit},
		{[]int{0, 2}, []int64{-1, 310}, 0, api.ErrLimit},
		{[]int{0, 0}, []int64{100}, 0, api.ErrHave},
		{[]int{3}, nil, 0, api.ErrRange},
		{make([]int, 33), nil, 0, api.ErrMany},
	} {
		started(t, i, p, x.order, x.starts, x.want, x.e)
	}
}

// P9.4: without jobs the ship has to be home from where it starts.
func TestCheckNoStarts(t *testing.T) {
	way := func(end int64) problem {
		return changed(func(p *problem) { p.s.From, p.s.Home, p.s.Start, p.s.End = 1, 2, 50, end })
	}
	started(t, "in time", way(200), nil, nil, 0, api.OK)
	started(t, "late", way(199), nil, nil, 0, api.ErrDue)
}

// P9.4: starts may be any numbers.
func TestCheckWildStarts(t *testing.T) {
	p := example()
	for _, x := range []int64{math.MinInt64, math.MinInt64 + 60, -1 << 40, -1, 1 << 40, math.MaxInt64 - 60, math.MaxInt64} {
		started(t, x, p, []int{0, 1}, []int64{x, 310}, 0, api.ErrRule)
		started(t, x, p, []int{0, 1}, []int64{100, x}, 1, api.ErrRule)
	}
}

// wrong returns what is wrong with starts, by the definitions.
func (p problem) wrong(order []int, starts []int64) (int, api.Errno) {
	if !p.enough(order) {
		return 0, api.ErrLimit
	}
	for k, i := range order {
		if !p.fits(p.l[i], starts[k]) {
			return k, api.ErrRule
		}
	}
	site, free := p.s.From, p.s.Start
	for k, i := range order {
		if starts[k] < free+p.c.Travel[site][p.l[i].Site] {
			return k, api.ErrLate
		}
		site, free = p.l[i].Site, starts[k]+p.l[i].Minutes
	}
	if free+p.c.Travel[site][p.s.Home] > p.s.End {
		return len(order), api.ErrDue
	}
	return len(order), api.OK
}

// P9.4: random starts.
func TestCheckStartsRandom(t *testing.T) {
	r := rand.New(rand.NewSource(6))
	seen := map[api.Errno]int{}
	for range 20000 {
		p := someProblem(r)
		order := p.someOrder(r)
		starts, _ := p.someStarts(r, order)
		if len(starts) > 0 && r.Intn(3) == 0 {
			starts[r.Intn(len(starts))] += r.Int63n(5) - 2
		}
		n, e := p.wrong(order, starts)
		started(t, p, p, order, starts, n, e)
		seen[e]++
	}
	for _, e := range []api.Errno{api.OK, api.ErrLimit, api.ErrRule, api.ErrLate, api.ErrDue} {
		if seen[e] < 300 {
			t.Error(e, "is seldom:", seen)
		}
	}
}

// P9.4: the value of an order, which need not be possible.
func TestValue(t *testing.T) {
	p := example()
	for i, x := range []struct {
		order []int
		want  int64
		e     api.Errno
	}{
		{nil, 0, api.OK}, {[]int{0, 1}, 130, api.OK}, {[]int{1, 0}, 130, api.OK}, {[]int{0, 1, 2}, 220, api.OK}, {[]int{2}, 90, api.OK},
		{[]int{2, 2}, 0, api.ErrHave}, {[]int{-1}, 0, api.ErrRange}, {[]int{0, 3}, 0, api.ErrRange}, {[]int{0, 0, 3}, 0, api.ErrRange},
		{make([]int, 33), 0, api.ErrMany},
	} {
		value, e := voyage.Value(p.c, p.s, p.l, x.order)
		same(t, i, value, e, x.want, x.e)
	}
	q := free(32)
	var order []int
	for i := range q.l {
		q.l[i].Value = amount
		order = append(order, i)
	}
	value, e := voyage.Value(q.c, q.s, q.l, order)
	same(t, "all", value, e, 32*amount, api.OK)
}
