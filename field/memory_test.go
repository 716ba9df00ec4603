package field_test

import (
	"math"
	"math/rand"
	"reflect"
	"slices"
	"testing"

	"isobath/api"
	"isobath/field"
)

// clone returns arguments that share no memory with others.
func (a arguments) clone() arguments {
	b := a
	b.sea = a.sea.clone()
	b.v, b.region, b.q = slices.Clone(a.v), slices.Clone(a.region), slices.Clone(a.q)
	for i, p := range b.q {
		b.q[i].Region = slices.Clone(p.Region)
	}
	b.budget.Region, b.budget.Fluxes = slices.Clone(a.budget.Region), slices.Clone(a.budget.Fluxes)
	return b
}

// everything returns the results of all functions.
func everything(a arguments) []any {
	var l []any
	put := func(results ...any) { l = append(l, results...) }
	put(field.Check(a.f), field.CheckSeen(a.f, a.l))
	distance, e := field.Distance(a.f, a.a, a.b)
	put(distance, e)
	possible, e := field.Possible(a.f, a.v)
	put(possible, e)
	fits, e := field.Fits(a.f, a.l, a.v)
	put(fits, e)
	i, k, e := field.Contradict(a.f, a.l)
	put(i, k, e)
	sets, e := field.Sets(a.f, a.l)
	put(sets, e)
	content, e := field.Content(a.f, a.l, a.region, a.t)
	put(content, e)
	change, e := field.Change(a.f, a.l, a.region, a.t, a.u)
	put(change, e)
	rest, e := field.Rest(a.f, a.l, a.budget)
	put(rest, e)
	closes, e := field.Closes(a.f, a.l, a.budget)
	put(closes, e)
	answer, e := field.Ask(a.f, a.l, a.q)
	put(answer, e)
	promised, e := field.Promise(a.f, a.l, a.a, a.e)
	put(promised, e)
	next, promised, e := field.Next(a.f, a.l, a.e)
	put(next, promised, e)
	return l
}

// someArguments returns random arguments.
func someArguments(r *rand.Rand) arguments {
	s := sizes()[r.Intn(2)].anySea(r)
	a := arguments{sea: s, v: s.someValues(r), a: s.someSpot(r), b: s.someSpot(r), region: s.someRegion(r), e: r.Int63n(20)}
	a.t, a.u, _ = s.somePeriod(r)
	a.budget = api.Budget{Region: s.someRegion(r), From: a.t, To: a.u, Fluxes: []api.Span{span(-r.Int63n(5), r.Int63n(5))}}
	// The observations need not be consistent.
	a.q = sea{f: s.f}.someQuestion(r)
	return a
}

// R5 and R10: no argument is changed, also where it is a part of a longer list,
// and equal calls return equal results.
func TestArgumentsAreKept(t *testing.T) {
	r := rand.New(rand.NewSource(19))
	for range 1500 {
		whole := someArguments(r)
		a := whole
		a.l, a.q = whole.l[:r.Intn(len(whole.l)+1)], whole.q[:r.Intn(len(whole.q)+1)]
		before, part := whole.clone(), a.clone()
		first, again := everything(a), everything(part)
		if !reflect.DeepEqual(first, again) || !reflect.DeepEqual(everything(a), first) {
			t.Fatal(a, first, again)
		}
		if !reflect.DeepEqual(whole.clone(), before) {
			t.Fatal(whole, before)
		}
	}
}

// R5: results are new memory.
func TestResultsAreNew(t *testing.T) {
	s := example()
	a, _ := field.Sets(s.f, s.l)
	want := slices.Clone(a)
	for i := range a {
		a[i] = span(7, 7)
	}
	b, e := field.Sets(s.f, s.l)
	equal(t, "again", b, e, want, api.OK)
	equal(t, "observations", s.l, api.OK, example().l, api.OK)
}

// R3: nil and empty lists are the same.
func TestEmptyLists(t *testing.T) {
	none, empty := arguments{sea: sea{f: example().f}}, arguments{sea: sea{example().f, []api.Seen{}}}
	for _, a := range []*arguments{&none, &empty} {
		a.region, a.u, a.budget = []int{0}, 1, api.Budget{Region: []int{0}, To: 1}
	}
	empty.v, empty.q, empty.budget.Fluxes = []int64{}, []api.Part{}, []api.Span{}
	if x, y := everything(none), everything(empty); !reflect.DeepEqual(x, y) {
		t.Error(x, y)
	}
	none.region, none.budget.Region = nil, nil
	empty.region, empty.budget.Region = []int{}, []int{}
	none.q, empty.q = []api.Part{inRegion(0, nil, 0)}, []api.Part{inRegion(0, []int{}, 0)}
	if x, y := everything(none), everything(empty); !reflect.DeepEqual(x, y) {
		t.Error(x, y)
	}
}

// wild returns a number that may be anything.
func wild(r *rand.Rand) int64 {
	limits := []int64{-1, 0, 1, 7, 8, 9, 63, 64, end, end + 1, slope, slope + 1, most, most + 1, 1 << 62, math.MinInt64, math.MinInt64 + 1, math.MaxInt64}
	switch r.Intn(3) {
	case 0:
		return int64(r.Uint64())
	case 1:
		return limits[r.Intn(len(limits))]
	}
	return r.Int63n(12)
}

// numbers returns the numbers of arguments, to be changed, but the indexes.
func (a *arguments) numbers() []*int64 {
	l := []*int64{&a.f.Range.Lo, &a.f.Range.Hi, &a.f.Space, &a.f.Change, &a.e, &a.v[0], &a.v[len(a.v)-1], &a.budget.Fluxes[0].Lo, &a.budget.Fluxes[0].Hi}
	for i := range a.l {
		l = append(l, &a.l[i].Set.Lo, &a.l[i].Set.Hi)
	}
	for i := range a.q {
		l = append(l, &a.q[i].Limit)
	}
	return l
}

// indexes returns the indexes of arguments, to be changed.
func (a *arguments) indexes() []*int {
	l := []*int{&a.f.Wide, &a.f.High, &a.f.Last, &a.a.Moment, &a.a.Cell, &a.b.Moment, &a.b.Cell, &a.t, &a.u, &a.region[0], &a.budget.Region[0], &a.budget.From, &a.budget.To}
	for i := range a.l {
		l = append(l, &a.l[i].Spot.Moment, &a.l[i].Spot.Cell)
	}
	for i := range a.q {
		l = append(l, &a.q[i].Kind, &a.q[i].A.Moment, &a.q[i].A.Cell, &a.q[i].B.Moment, &a.q[i].B.Cell)
	}
	return l
}

// P1 and R2: every function ends for any numbers; with an error all other
// results are zero values.
func TestAnyNumbers(t *testing.T) {
	r := rand.New(rand.NewSource(20))
	known := []api.Errno{api.OK, api.ErrArg, api.ErrRange, api.ErrSum, api.ErrEqual, api.ErrRule}
	for range 20000 {
		a := someArguments(r)
		if l := a.numbers(); r.Intn(2) == 0 {
			*l[r.Intn(len(l))] = wild(r)
		}
		if l := a.indexes(); r.Intn(3) == 0 {
			*l[r.Intn(len(l))] = int(wild(r))
		}
		f := calls()[r.Intn(len(calls()))]
		zero, e := f.do(a)
		if !slices.Contains(known, e) || e != api.OK && !zero {
			t.Fatal(f.name, a, e, zero)
		}
		field.Contradict(a.f, a.l)
	}
}
