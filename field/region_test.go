package field_test

import (
	"math"
	"math/rand"
	"slices"
	"testing"

	"isobath/api"
	"isobath/field"
)

// content asks for a content.
func content(t *testing.T, s sea, region []int, moment int, want api.Span, wantErr api.Errno) {
	t.Helper()
	x, e := field.Content(s.f, s.l, region, moment)
	same(t, []any{s, region, moment}, x, e, want, wantErr)
}

// changes asks for a change.
func changes(t *testing.T, s sea, region []int, from, to int, want api.Span, wantErr api.Errno) {
	t.Helper()
	x, e := field.Change(s.f, s.l, region, from, to)
	same(t, []any{s, region, from, to}, x, e, want, wantErr)
}

// rest asks for the rest of a budget, and whether it closes without one.
func rest(t *testing.T, s sea, b api.Budget, want api.Span, closes api.Answer, wantErr api.Errno) {
	t.Helper()
	x, e := field.Rest(s.f, s.l, b)
	same(t, []any{s, b}, x, e, want, wantErr)
	c, e := field.Closes(s.f, s.l, b)
	same(t, []any{s, b}, c, e, closes, wantErr)
}

// notRegions returns lists that are not regions of the examples' field.
func notRegions() [][]int {
	return [][]int{nil, {}, {3}, {-1}, {-1, 0}, {0, 3}, {0, 0}, {1, 0}, {0, 2, 1}, {0, 1, 2, 3}, {0, 1, 2, 2}, {math.MinInt}, {math.MaxInt}}
}

// P10.4: the chapter's examples of contents, and regions and moments that are not
// valid.
func TestContent(t *testing.T) {
	s := example()
	content(t, s, []int{0, 2}, 1, span(70, 90), api.OK)
	content(t, s, []int{0, 1, 2}, 0, span(90, 120), api.OK)
	content(t, s, []int{1}, 0, span(30, 40), api.OK)
	for _, region := range notRegions() {
		content(t, s, region, 0, span(0, 0), api.ErrArg)
		content(t, s, region, 2, span(0, 0), api.ErrArg)
	}
	for _, moment := range []int{-1, 2, math.MinInt, math.MaxInt} {
		content(t, s, []int{0}, moment, span(0, 0), api.ErrRange)
	}
	content(t, s.with(seen(1, 2, 60, 70)), []int{3}, 2, span(0, 0), api.ErrSum)
	var region []int
	for c := range 64 {
		region = append(region, c)
	}
	content(t, greatest(), region, 7, span(-64*end, 64*end), api.OK)
	content(t, greatest(), append(region, 64), 7, span(0, 0), api.ErrArg)
}

// P10.4: the chapter's example of a change, one that Change bounds, and moments
// that are not valid.
func TestChange(t *testing.T) {
	s := example()
	changes(t, s, []int{1}, 0, 1, span(-5, 5), api.OK)
	changes(t, s, []int{0, 1, 2}, 0, 1, span(-15, 15), api.OK)
	// What is known of the values is less than Change.
	narrow := s.with(seen(0, 0, 25, 25), seen(1, 0, 27, 28))
	changes(t, narrow, []int{0}, 0, 1, span(2, 3), api.OK)
	changes(t, s.with(seen(0, 0, 20, 22), seen(1, 0, 26, 30)), []int{0}, 0, 1, span(4, 5), api.OK)
	changes(t, s.with(seen(0, 0, 29, 30), seen(1, 0, 25, 26)), []int{0}, 0, 1, span(-5, -3), api.OK)
	for _, region := range notRegions() {
		changes(t, s, region, 0, 1, span(0, 0), api.ErrArg)
		changes(t, s, region, 1, 0, span(0, 0), api.ErrArg)
	}
	for _, x := range [][2]int{{0, 0}, {1, 1}, {1, 0}, {-1, 1}, {0, 2}, {-2, -1}, {2, 3}, {math.MinInt, math.MaxInt}} {
		changes(t, s, []int{0}, x[0], x[1], span(0, 0), api.ErrRange)
	}
	changes(t, s.with(seen(1, 2, 60, 70)), nil, 1, 0, span(0, 0), api.ErrSum)
	var region []int
	for c := range 64 {
		region = append(region, c)
	}
	changes(t, greatest(), region, 0, 7, span(-64*7*slope, 64*7*slope), api.OK)
	still := greatest()
	still.f.Change = 0
	changes(t, still, region, 3, 4, span(0, 0), api.OK)
}

// P10.5: the chapter's example, budgets that close, and those that do not.
func TestRest(t *testing.T) {
	s := example()
	budget := func(fluxes ...api.Span) api.Budget {
		return api.Budget{Region: []int{1}, From: 0, To: 1, Fluxes: fluxes}
	}
	rest(t, s, budget(span(3, 4)), span(-9, 2), api.Open, api.OK)
	rest(t, s, budget(), span(-5, 5), api.Open, api.OK)
	rest(t, s, budget(span(3, 4), span(-10, 0)), span(-9, 12), api.Open, api.OK)
	rest(t, s, budget(span(6, 7)), span(-12, -1), api.No, api.OK)
	rest(t, s, budget(span(5, 7)), span(-12, 0), api.Open, api.OK)
	rest(t, s, budget(span(-7, -6)), span(1, 12), api.No, api.OK)
	rest(t, s, budget(span(-7, -5)), span(0, 12), api.Open, api.OK)
	exact := s.with(seen(0, 1, 33, 33), seen(1, 1, 37, 37))
	rest(t, exact, budget(span(4, 4)), span(0, 0), api.Yes, api.OK)
	rest(t, exact, budget(span(5, 5), span(-1, -1)), span(0, 0), api.Yes, api.OK)
	rest(t, exact, budget(span(3, 3)), span(1, 1), api.No, api.OK)
	rest(t, exact, budget(span(5, 5)), span(-1, -1), api.No, api.OK)
	rest(t, exact, budget(span(4, 5)), span(-1, 0), api.Open, api.OK)
	rest(t, exact, budget(span(3, 4)), span(0, 1), api.Open, api.OK)
	rest(t, exact, api.Budget{Region: []int{1}, From: 0, To: 1, Fluxes: nil}, span(4, 4), api.No, api.OK)
}

// P10.5: budgets that are not valid, and those at the limits.
func TestBudgets(t *testing.T) {
	s := example()
	for _, region := range notRegions() {
		rest(t, s, api.Budget{Region: region, From: 0, To: 1}, span(0, 0), api.No, api.ErrArg)
	}
	for _, x := range [][2]int{{0, 0}, {1, 1}, {1, 0}, {-1, 1}, {0, 2}, {-2, -1}, {2, 3}, {math.MinInt, math.MaxInt}} {
		rest(t, s, api.Budget{Region: []int{0}, From: x[0], To: x[1]}, span(0, 0), api.No, api.ErrArg)
	}
	full := slices.Repeat([]api.Span{span(-most, most)}, api.MaxFluxes)
	b := api.Budget{Region: []int{0}, From: 0, To: 1, Fluxes: full}
	rest(t, s, b, span(-5-16*most, 5+16*most), api.Open, api.OK)
	b.Fluxes = slices.Repeat([]api.Span{span(most, most)}, api.MaxFluxes)
	rest(t, s, b, span(-5-16*most, 5-16*most), api.No, api.OK)
	b.Fluxes = append(b.Fluxes, span(0, 0))
	rest(t, s, b, span(0, 0), api.No, api.ErrArg)
	for _, x := range []api.Span{span(1, 0), span(-most-1, 0), span(0, most+1), span(math.MaxInt64, math.MinInt64)} {
		b.Fluxes = []api.Span{span(0, 0), x}
		rest(t, s, b, span(0, 0), api.No, api.ErrArg)
	}
	rest(t, s.with(seen(1, 2, 60, 70)), b, span(0, 0), api.No, api.ErrSum)
	rest(t, sea{}, b, span(0, 0), api.No, api.ErrArg)
}

// closes returns whether a budget with a rest closes without one.
func closes(rest api.Span) api.Answer {
	switch {
	case rest == span(0, 0):
		return api.Yes
	case rest.Lo > 0 || rest.Hi < 0:
		return api.No
	}
	return api.Open
}

// P10.4, P10.5, P10.8 and P10.12: random contents, changes and budgets contain
// what is true.
func TestTruthOfRegions(t *testing.T) {
	r := rand.New(rand.NewSource(10))
	in := func(x int64, s api.Span) bool { return s.Lo <= x && x <= s.Hi }
	answers := [3]int{}
	for range 3000 {
		s, v := someSea(r)
		region := s.someRegion(r)
		moment := r.Intn(s.f.Last + 1)
		sum := s.content(region, moment)
		content(t, s, region, moment, sum, api.OK)
		if !in(s.sum(v, region, moment), sum) {
			t.Fatal(s, v, region, moment, sum)
		}
		from, to, some := s.somePeriod(r)
		if !some {
			continue
		}
		change := s.change(region, from, to)
		changes(t, s, region, from, to, change, api.OK)
		grown := s.sum(v, region, to) - s.sum(v, region, from)
		if !in(grown, change) {
			t.Fatal(s, v, region, from, to, change)
		}
		b := api.Budget{Region: region, From: from, To: to}
		for range r.Intn(4) {
			x := r.Int63n(21) - 10
			grown -= x
			b.Fluxes = append(b.Fluxes, span(x-r.Int63n(3), x+r.Int63n(3)))
		}
		left := s.rest(b)
		rest(t, s, b, left, closes(left), api.OK)
		if !in(grown, left) {
			t.Fatal(s, v, b, left, grown)
		}
		answers[closes(left)]++
	}
	if slices.Min(answers[:]) < 20 {
		t.Error("few of one answer:", answers)
	}
}

// P10.8 and P10.9: for tiny seas the ends of contents, and those of changes of one
// cell, are reached.
func TestRegionsAreExact(t *testing.T) {
	r := rand.New(rand.NewSource(11))
	for range 300 {
		s, _ := tiny()[r.Intn(3)].sea(r)
		all := s.values()
		region := s.someRegion(r)
		reached := func(sum func(v []int64) int64) api.Span {
			x := span(sum(all[0]), sum(all[0]))
			for _, v := range all {
				x = span(min(x.Lo, sum(v)), max(x.Hi, sum(v)))
			}
			return x
		}
		content(t, s, region, s.f.Last, reached(func(v []int64) int64 { return s.sum(v, region, s.f.Last) }), api.OK)
		if from, to, some := s.somePeriod(r); some {
			one := region[:1]
			changes(t, s, one, from, to, reached(func(v []int64) int64 { return s.sum(v, one, to) - s.sum(v, one, from) }), api.OK)
		}
	}
}

// P10.12: the changes of successive times contain the change of the whole time
// when they are added.
func TestSuccessiveChanges(t *testing.T) {
	r := rand.New(rand.NewSource(12))
	tried := 0
	for range 3000 {
		s, _ := someSea(r)
		from, to, some := s.somePeriod(r)
		if !some || to-from < 2 {
			continue
		}
		tried++
		between := from + 1 + r.Intn(to-from-1)
		region := s.someRegion(r)
		a, _ := field.Change(s.f, s.l, region, from, between)
		b, _ := field.Change(s.f, s.l, region, between, to)
		c, e := field.Change(s.f, s.l, region, from, to)
		if e != api.OK || a.Lo+b.Lo > c.Lo || a.Hi+b.Hi < c.Hi {
			t.Fatal(s, region, from, between, to, a, b, c, e)
		}
	}
	if tried < 300 {
		t.Error("few periods:", tried)
	}
}
