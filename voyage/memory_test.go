package voyage_test

import (
	"math"
	"math/rand"
	"reflect"
	"slices"
	"testing"

	"isobath/api"
	"isobath/voyage"
)

// everything returns the results of all functions.
func everything(p problem, order []int, starts []int64, from, now int64) []any {
	var l []any
	put := func(results ...any) { l = append(l, results...) }
	put(voyage.CheckChart(p.c), voyage.CheckShip(p.c, p.s), voyage.CheckJobs(p.c, p.s, p.l))
	for _, j := range p.l {
		at, e := voyage.Fit(p.c, p.s, j, from)
		put(at, e)
	}
	times, home, e := voyage.Times(p.c, p.s, p.l, order)
	put(times, home, e)
	k, e := voyage.CheckStarts(p.c, p.s, p.l, order, starts)
	put(k, e)
	value, e := voyage.Value(p.c, p.s, p.l, order)
	put(value, e)
	best, value, e := voyage.Best(p.c, p.s, p.l)
	put(best, value, e)
	longer, e := voyage.Extend(p.c, p.s, p.l, order)
	put(longer, e)
	bound, e := voyage.Bound(p.c, p.s, p.l, from, now)
	put(bound, e)
	n, d, bound, e := voyage.Rate(p.c, p.s, p.l)
	put(n, d, bound, e)
	gap, e := voyage.Gap(p.c, p.s, p.l, order)
	put(gap, e)
	begun, ship, e := voyage.Rest(p.c, p.s, p.l, order, now)
	put(begun, ship, e)
	return l
}

// R5 and R10: no argument is changed, also where it is a part of a longer list,
// and equal calls return equal results.
func TestArgumentsAreKept(t *testing.T) {
	r := rand.New(rand.NewSource(15))
	for range 1500 {
		p := someProblem(r)
		whole := r.Perm(len(p.l))
		order := whole[:r.Intn(len(p.l)+1)]
		starts, _ := p.someStarts(r, order)
		from, now := r.Int63n(60), r.Int63n(60)
		before, sameWhole, sameStarts := p.clone(), slices.Clone(whole), slices.Clone(starts)
		first := everything(p, order, starts, from, now)
		again := everything(before.clone(), slices.Clone(order), starts, from, now)
		if !reflect.DeepEqual(first, again) {
			t.Fatal(p, order, starts, first, again)
		}
		kept := reflect.DeepEqual(p.clone(), before) && slices.Equal(whole, sameWhole) && slices.Equal(starts, sameStarts)
		if !kept {
			t.Fatal(p, before, whole, sameWhole, starts, sameStarts)
		}
	}
}

// R5: results share no memory with an argument or another result, and nothing is
// kept of arguments.
func TestResultsAreNew(t *testing.T) {
	p, order := example(), []int{2}
	l, e := voyage.Extend(p.c, p.s, p.l, order)
	l[0] = 7
	equal(t, "order", order, e, []int{2}, api.OK)
	order = make([]int, 1, 9)
	l, _ = voyage.Extend(p.c, p.s, p.l, order)
	equal(t, "behind the order", order[:2], api.OK, []int{0, 0}, api.OK)
	equal(t, "extended", l, api.OK, []int{0, 1}, api.OK)
	for _, now := range []int64{0, 120, 999} {
		_, s, _ := voyage.Rest(p.c, p.s, p.l, []int{0, 1}, now)
		equal(t, "teams", s.Teams, api.OK, p.s.Teams, api.OK)
		s.Teams[0], s.Teams[1] = 9, 9
		equal(t, "teams", p.s.Teams, api.OK, []int64{1, 2}, api.OK)
	}
	a, _, _ := voyage.Best(p.c, p.s, p.l)
	b, _, _ := voyage.Best(p.c, p.s, p.l)
	a[0] = 7
	equal(t, "Best", b, api.OK, []int{0, 1}, api.OK)
}

// R3: nil and empty lists are the same.
func TestEmptyLists(t *testing.T) {
	p := example()
	p.c.Zones, p.s.Teams, p.l = nil, nil, nil
	q := p
	q.c.Zones, q.s.Teams, q.l = []api.Span{}, []int64{}, []api.Job{}
	timed(t, "nil", p, nil, nil, 0, api.OK)
	timed(t, "empty", q, []int{}, nil, 0, api.OK)
	found(t, "nil", p, nil, 0, api.OK)
	found(t, "empty", q, nil, 0, api.OK)
	longer(t, "nil", p, nil, nil, api.OK)
	longer(t, "empty", q, []int{}, nil, api.OK)
	w := free(1)
	w.l[0].Weather = []api.Span{}
	timed(t, "no weather", w, []int{0}, nil, 0, api.ErrNone)
	found(t, "no weather", w, nil, 0, api.OK)
}

// wild returns a number that may be anything.
func wild(r *rand.Rand) int64 {
	limits := []int64{-1, 0, 1, minutes, minutes + 1, amount, amount + 1, 1 << 30, 1<<30 + 1, 1 << 62, math.MinInt64, math.MinInt64 + 1, math.MaxInt64}
	switch r.Intn(3) {
	case 0:
		return int64(r.Uint64())
	case 1:
		return limits[r.Intn(len(limits))]
	}
	return r.Int63n(30)
}

// numbers returns the numbers of a problem, to be changed, but the indexes.
func (p *problem) numbers() []*int64 {
	l := []*int64{&p.s.Start, &p.s.End, &p.s.Winch, &p.s.Wire, &p.s.Berths, &p.s.Teams[0], &p.c.Travel[0][len(p.c.Travel)-1]}
	for i := range p.c.Zones {
		l = append(l, &p.c.Zones[i].Lo, &p.c.Zones[i].Hi)
	}
	for i := range p.l {
		j := &p.l[i]
		l = append(l, &j.Value, &j.Minutes, &j.Weight, &j.Wire)
		if n := len(j.Weather); n > 0 {
			l = append(l, &j.Weather[0].Lo, &j.Weather[n-1].Hi)
		}
	}
	return l
}

// indexes returns the indexes of a problem, to be changed.
func (p *problem) indexes() []*int {
	l := []*int{&p.s.From, &p.s.Home}
	for i := range p.l {
		l = append(l, &p.l[i].Site, &p.l[i].Team, &p.l[i].Zone)
	}
	return l
}

// P1 and R2: every function ends for any numbers; with an error all other
// results are zero values.
func TestAnyNumbers(t *testing.T) {
	r := rand.New(rand.NewSource(16))
	for range 20000 {
		p := someProblem(r).clone()
		if l := p.numbers(); r.Intn(2) == 0 {
			*l[r.Intn(len(l))] = wild(r)
		}
		if l := p.indexes(); r.Intn(4) == 0 {
			*l[r.Intn(len(l))] = int(wild(r))
		}
		order := p.someOrder(r)
		if len(order) > 0 && r.Intn(4) == 0 {
			order[r.Intn(len(order))] = int(wild(r))
		}
		starts := make([]int64, len(order))
		for k := range starts {
			starts[k] = wild(r)
		}
		a := arguments{p, api.Job{}, order, starts, wild(r), wild(r), wild(r), wild(r)}
		if len(p.l) > 0 {
			a.j = p.l[0]
		}
		f := calls()[r.Intn(len(calls()))]
		zero, e := f.do(a)
		known := []api.Errno{api.ErrArg, api.ErrRange, api.ErrNone, api.ErrHave, api.ErrLimit, api.ErrPlan, api.ErrRule, api.ErrLate, api.ErrDue}
		if e != api.OK && !slices.Contains(known, e) {
			t.Fatal(f.name, a, e)
		}
		if e != api.OK && f.name != "CheckStarts" && !zero {
			t.Fatal(f.name, a, e)
		}
	}
}

// P1: tables of travel times may have rows of any lengths.
func TestAnyRows(t *testing.T) {
	r := rand.New(rand.NewSource(17))
	for range 2000 {
		var c api.Chart
		square := true
		for range r.Intn(4) {
			c.Travel = append(c.Travel, make([]int64, r.Intn(4)))
		}
		for _, row := range c.Travel {
			square = square && len(row) == len(c.Travel)
		}
		want := api.OK
		if len(c.Travel) == 0 {
			want = api.ErrMany
		} else if !square {
			want = api.ErrArg
		}
		p := example()
		p.c = c
		p.s.From, p.s.Home, p.l = 0, 0, nil
		same(t, c, 0, voyage.CheckChart(c), 0, want)
		timed(t, c, p, nil, nil, 0, want)
	}
}
