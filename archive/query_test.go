package archive_test

import (
	"math"
	"math/rand"
	"testing"

	"isobath/api"
)

// P11.4: Counts asks for a series and times.
func TestCountsAsksForTimes(t *testing.T) {
	a := filled(t, pair(), three()...)
	for _, i := range []int{math.MinInt, -1, 2, 16, 1 << 32, math.MaxInt} {
		e, wrong := a.Counts(i, 10, 60)
		same(t, i, e, wrong, api.Entry{}, api.ErrArg)
	}
	for _, x := range []int64{math.MinInt64, -1, most + 1, math.MaxInt64} {
		e, wrong := a.Counts(0, x, 60)
		same(t, x, e, wrong, api.Entry{}, api.ErrArg)
		e, wrong = a.Counts(0, 10, x)
		same(t, x, e, wrong, api.Entry{}, api.ErrArg)
	}
	for _, x := range []int64{0, 9, 12, most} {
		e, wrong := a.Counts(0, x, most)
		same(t, x, e, wrong, api.Entry{}, api.ErrNone)
	}
	e, wrong := a.Counts(1, 10, most)
	same(t, "another series", e, wrong, api.Entry{}, api.ErrNone)
}

// version returns an entry with a version and a time of arrival.
func version(version int, arrived int64) api.Entry {
	e := first()
	e.Version, e.Arrived = version, arrived
	return e
}

// P11.4 and P11.13: the greatest version of those that have arrived counts, also
// if lesser ones arrive later.
func TestCountsOfVersions(t *testing.T) {
	a := filled(t, pair(), version(3, 30), version(1, 10), version(2, 40), version(0, 20), version(revised, 50), version(5, 60))
	for asOf, want := range map[int64]api.Entry{
		10: version(1, 10), 19: version(1, 10), 20: version(1, 10), 29: version(1, 10), 30: version(3, 30),
		39: version(3, 30), 40: version(3, 30), 49: version(3, 30), 50: version(revised, 50), 60: version(revised, 50), most: version(revised, 50),
	} {
		e, wrong := a.Counts(0, 10, asOf)
		same(t, asOf, e, wrong, want, api.OK)
	}
	for _, asOf := range []int64{0, 9} {
		e, wrong := a.Counts(0, 10, asOf)
		same(t, asOf, e, wrong, api.Entry{}, api.ErrNone)
	}
}

// P11.13: as of a later time the entry that counts has no lesser version.
func TestLaterVersions(t *testing.T) {
	r := rand.New(rand.NewSource(5))
	grown := 0
	for range 400 {
		s, _ := someShore(r)
		a := filled(t, s.series, s.l...)
		for _, x := range s.l {
			e, wrong := a.Counts(x.Series, x.Time, x.Arrived)
			if wrong != api.OK || e.Version < x.Version || e.Arrived > x.Arrived {
				t.Fatal(x, e, wrong)
			}
			later := x.Arrived + r.Int63n(most-x.Arrived+1)
			f, wrong := a.Counts(x.Series, x.Time, later)
			if wrong != api.OK || f.Version < e.Version || f.Arrived > later {
				t.Fatal(e, f, wrong)
			}
			if f != e {
				grown++
			}
		}
	}
	if grown < 100 {
		t.Error(grown)
	}
}

// queryBend is a change of a query, and whether it is valid then.
type queryBend struct {
	change func(q *api.Query)
	ok     bool
}

// queryBends returns changes of a query from 0 to 100 for the first of two series.
func queryBends() []queryBend {
	var l []queryBend
	put := func(ok bool, change func(q *api.Query)) { l = append(l, queryBend{change, ok}) }
	for _, x := range []int{math.MinInt, -1, 0, 1, 62, 63, 64, 1<<32 + 1, math.MaxInt} {
		put(x >= 0 && x <= 63, func(q *api.Query) { q.Reader = x })
		put(x == 0 || x == 1, func(q *api.Query) { q.Series = x })
	}
	for _, x := range []int64{math.MinInt64, -1, 0, 1, 99, 100, 101, most - 1, most, most + 1, 1<<32 + 1, math.MaxInt64} {
		ok := x >= 0 && x <= most
		put(ok, func(q *api.Query) { q.Now = x })
		put(ok, func(q *api.Query) { q.AsOf = x })
		put(ok && x < 100, func(q *api.Query) { q.From = x })
		put(ok && x > 0, func(q *api.Query) { q.To = x })
	}
	put(true, func(q *api.Query) { q.From, q.To = most-1, most })
	put(false, func(q *api.Query) { q.From, q.To = most, most })
	put(false, func(q *api.Query) { q.From, q.To = most, most+1 })
	put(false, func(q *api.Query) { q.From, q.To = -1, 0 })
	put(false, func(q *api.Query) { q.From, q.To = 50, 49 })
	return l
}

// P11.5 to P11.7: methods with a query return ErrArg if it is not valid.
func TestQueries(t *testing.T) {
	s := shore{pair(), three()}
	a := filled(t, pair(), three()...)
	for i, x := range queryBends() {
		q := ask(1)
		x.change(&q)
		if x.ok {
			s.answers(t, a, q)
			continue
		}
		l, n, e := a.Find(q)
		equal(t, i, l, e, nil, api.ErrArg)
		same(t, i, n, e, 0, api.ErrArg)
		mean, e := a.Mean(q)
		same(t, i, mean, e, api.Span{}, api.ErrArg)
		answer, e := a.Below(q, 5)
		same(t, i, answer, e, api.No, api.ErrArg)
		p, e := a.Publish(q)
		same(t, i, p, e, api.Product{}, api.ErrArg)
		same(t, i, a.CheckProduct(api.Product{Query: q}), api.OK, api.ErrArg, api.OK)
	}
}

// P11.5: a query finds the times from From to To - 1, of its series.
func TestFindOfTimes(t *testing.T) {
	var l []api.Entry
	for _, x := range []int64{0, 4, 5, 6, 9, 10, most - 1, most} {
		for series := range 2 {
			l = append(l, api.Entry{Series: series, Time: x, Cause: "c"})
		}
	}
	a := filled(t, pair(), l...)
	for _, x := range []struct{ from, to, least, many int64 }{
		{5, 10, 5, 3}, {5, 9, 5, 2}, {5, 6, 5, 1}, {4, 11, 4, 5}, {0, 1, 0, 1}, {7, 9, 0, 0}, {most - 1, most, most - 1, 1}, {0, most, 0, 7},
	} {
		q := api.Query{Series: 1, From: x.from, To: x.to}
		found, n, e := a.Find(q)
		same(t, x, int64(len(found)), e, x.many, api.OK)
		same(t, x, n, e, 0, api.OK)
		for i, f := range found {
			if f.Series != 1 || f.Time < x.from || f.Time >= x.to || i == 0 && f.Time != x.least {
				t.Error(x, found)
			}
		}
	}
}

// P11.5: an entry is hidden if another one owns it and it is not yet free.
func TestFindOfHiddenEntries(t *testing.T) {
	for _, x := range []struct {
		reader, owner int
		now, free     int64
		hidden        bool
	}{
		{1, 1, 0, most, false}, {1, 2, 5, 6, true}, {1, 2, 6, 6, false}, {1, 2, 7, 6, false}, {2, 1, 5, 6, true},
		{0, 63, 0, 0, false}, {0, 63, 0, 1, true}, {63, 0, most - 1, most, true}, {63, 0, most, most, false}, {63, 63, 0, 1, false},
	} {
		e := first()
		e.Owner, e.Free = x.owner, x.free
		a := filled(t, pair(), e)
		q := ask(x.reader)
		q.Now = x.now
		l, n, wrong := a.Find(q)
		mean, _ := a.Mean(q)
		if x.hidden {
			equal(t, x, l, wrong, nil, api.OK)
			same(t, x, n, wrong, 1, api.OK)
			same(t, x, mean, wrong, span(0, 400), api.OK)
		} else {
			equal(t, x, l, wrong, []api.Entry{e}, api.OK)
			same(t, x, n, wrong, 0, api.OK)
			same(t, x, mean, wrong, e.Value, api.OK)
		}
	}
}

// P11.5: an earlier version that is free does not stand for a later one that is
// hidden.
func TestHiddenVersions(t *testing.T) {
	e, later := first(), third()
	later.Owner, later.Free = 2, 500
	a := filled(t, pair(), e, later)
	l, n, wrong := a.Find(ask(1))
	equal(t, "hidden", l, wrong, nil, api.OK)
	same(t, "hidden", n, wrong, 1, api.OK)
	q := ask(1)
	q.AsOf = 49
	l, n, wrong = a.Find(q)
	equal(t, "before", l, wrong, []api.Entry{e}, api.OK)
	same(t, "before", n, wrong, 0, api.OK)
}

// P11.5: the mean is rounded outward, also below 0, and its sum may be greater
// than MaxValue.
func TestMean(t *testing.T) {
	s := []api.Series{{Name: "a", Bounds: span(-most, most)}}
	for _, x := range []struct {
		values []api.Span
		want   api.Span
	}{
		{[]api.Span{span(1, 1), span(2, 2)}, span(1, 2)},
		{[]api.Span{span(-1, -1), span(-2, -2)}, span(-2, -1)},
		{[]api.Span{span(-2, 3), span(-2, 4)}, span(-2, 4)},
		{[]api.Span{span(-1, 0), span(0, 1)}, span(-1, 1)},
		{[]api.Span{span(1, 1), span(1, 1), span(2, 2)}, span(1, 2)},
		{[]api.Span{span(-7, -7), span(0, 0), span(0, 0)}, span(-3, -2)},
		{[]api.Span{span(-6, 6), span(0, 0), span(0, 0)}, span(-2, 2)},
		{[]api.Span{span(most, most), span(most, most), span(most-1, most)}, span(most-1, most)},
		{[]api.Span{span(-most, -most), span(-most, 1-most), span(-most, -most)}, span(-most, 1-most)},
		{[]api.Span{span(-most, most)}, span(-most, most)},
	} {
		a := made(t, s)
		for i, v := range x.values {
			a.Add(api.Entry{Time: int64(i), Value: v, Cause: "c"})
		}
		mean, e := a.Mean(api.Query{To: 9})
		same(t, x, mean, e, x.want, api.OK)
	}
	l := full()
	for i := range l {
		l[i].Time, l[i].Version, l[i].Value = int64(i), 0, span(most, most)
	}
	l[0].Value.Lo--
	mean, e := filled(t, s, l...).Mean(api.Query{AsOf: 20, To: most})
	same(t, "full", mean, e, span(most-1, most), api.OK)
}

// P11.5 and P11.6: there has to be an entry that the query finds.
func TestMeanOfNothing(t *testing.T) {
	a := filled(t, pair(), three()...)
	for i, change := range []func(q *api.Query){
		func(q *api.Query) { q.AsOf = 19 }, func(q *api.Query) { q.Series = 1 }, func(q *api.Query) { q.To = 10 }, func(q *api.Query) { q.From = 12 },
	} {
		q := ask(1)
		change(&q)
		mean, e := a.Mean(q)
		same(t, i, mean, e, api.Span{}, api.ErrNone)
		answer, e := a.Below(q, 1000)
		same(t, i, answer, e, api.No, api.ErrNone)
		l, n, e := a.Find(q)
		equal(t, i, l, e, nil, api.OK)
		same(t, i, n, e, 0, api.OK)
	}
}

// P11.6: Below compares the mean with any number.
func TestBelow(t *testing.T) {
	s := []api.Series{{Name: "a", Bounds: span(-most, most)}}
	for _, x := range []struct {
		value api.Span
		limit int64
		want  api.Answer
	}{
		{span(3, 7), 8, api.Yes}, {span(3, 7), 7, api.Open}, {span(3, 7), 4, api.Open}, {span(3, 7), 3, api.No}, {span(3, 7), 2, api.No},
		{span(5, 5), 5, api.No}, {span(5, 5), 6, api.Yes}, {span(-5, -3), -2, api.Yes}, {span(-5, -3), -3, api.Open}, {span(-5, -3), -5, api.No},
		{span(-most, most), most + 1, api.Yes}, {span(-most, most), most, api.Open}, {span(-most, most), 1 - most, api.Open}, {span(-most, most), -most, api.No},
		{span(-most, most), math.MinInt64, api.No}, {span(-most, most), math.MaxInt64, api.Yes},
	} {
		answer, e := filled(t, s, api.Entry{Value: x.value, Cause: "c"}).Below(api.Query{To: 1}, x.limit)
		same(t, x, answer, e, x.want, api.OK)
	}
}

// P11.4 to P11.7: all answers agree with the definitions.
func TestAnyQueries(t *testing.T) {
	r := rand.New(rand.NewSource(6))
	empty, mixed, corrected := 0, 0, 0
	for range 800 {
		s, _ := someShore(r)
		a := filled(t, s.series, s.l...)
		for range 6 {
			q := s.query(r)
			s.answers(t, a, q)
			switch l, n := s.find(q); {
			case len(l)+n == 0:
				empty++
			case len(l) > 0 && n > 0:
				mixed++
			case len(s.l) > 0 && len(l) > 0 && l[0].Version > 0:
				corrected++
			}
		}
	}
	if empty < 100 || mixed < 100 || corrected < 100 {
		t.Error(empty, mixed, corrected)
	}
}
