package archive_test

import (
	"math/rand"
	"reflect"
	"slices"
	"testing"

	"isobath/api"
	"isobath/archive"
)

// forReader returns all results for the reader of a query.
func forReader(a *archive.Archive, q api.Query) []any {
	l, n, e := a.Find(q)
	mean, meanErr := a.Mean(q)
	p, publishErr := a.Publish(q)
	results := []any{len(l), slices.Concat(l), n, e, mean, meanErr, p, publishErr, a.CheckProduct(p)}
	for _, limit := range []int64{mean.Lo, mean.Lo + 1, mean.Hi, mean.Hi + 1, 0} {
		answer, e := a.Below(q, limit)
		results = append(results, answer, e)
	}
	return results
}

// disguised returns an entry that differs from a hidden one only in what must not
// be seen.
func disguised(r *rand.Rand, z size, s shore, e api.Entry) api.Entry {
	other := z.entry(r, s)
	f := e
	switch r.Intn(5) {
	case 0:
		f.Value = someIn(r, s.series[e.Series].Bounds)
	case 1:
		f.Cause = other.Cause
	case 2:
		f.Version = other.Version
	case 3:
		f.Arrived = other.Arrived
	default:
		f.Value, f.Cause, f.Version, f.Arrived = someIn(r, s.series[e.Series].Bounds), other.Cause, other.Version, other.Arrived
	}
	return f
}

// P11.11: no result for a reader depends on what is hidden in an entry, as long as
// the same entries count.
func TestEmbargo(t *testing.T) {
	r := rand.New(rand.NewSource(7))
	changed := map[string]int{}
	for range 8000 {
		s, z := someShore(r)
		q := s.query(r)
		found := s.finds(q)
		if len(found) == 0 {
			continue
		}
		e := found[r.Intn(len(found))]
		f := disguised(r, z, s, e)
		other := shore{series: s.series, l: slices.Clone(s.l)}
		other.l = slices.DeleteFunc(other.l, func(x api.Entry) bool { return x == e })
		if !hidden(q, e) || other.add(f) != api.OK {
			continue
		}
		if best, _ := other.counts(e.Series, e.Time, q.AsOf); best != f {
			continue
		}
		x, y := forReader(filled(t, s.series, s.l...), q), forReader(filled(t, s.series, other.l...), q)
		if !reflect.DeepEqual(x, y) {
			t.Fatal(q, e, f, x, y)
		}
		for name, differs := range map[string]bool{"Value": e.Value != f.Value, "Cause": e.Cause != f.Cause, "Version": e.Version != f.Version, "Arrived": e.Arrived != f.Arrived} {
			if differs {
				changed[name]++
			}
		}
	}
	for _, name := range []string{"Value", "Cause", "Version", "Arrived"} {
		if changed[name] < 100 {
			t.Error(changed)
		}
	}
}

// P11.11: with another value a product whose entry is hidden can be made again,
// and one whose entry is seen cannot.
func TestEmbargoOfProducts(t *testing.T) {
	other := second()
	other.Value, other.Cause, other.Version, other.Arrived = span(0, 400), "x", 7, 60
	a, b := filled(t, pair(), first(), second()), filled(t, pair(), first(), other)
	for reader, want := range map[int]api.Errno{1: api.OK, 3: api.OK, 2: api.ErrSum} {
		p, e := a.Publish(ask(reader))
		same(t, reader, b.CheckProduct(p), e, want, api.OK)
	}
}

// isIn tells whether a span is in another one.
func isIn(a, b api.Span) bool { return b.Lo <= a.Lo && a.Hi <= b.Hi }

// seesMore tells whether nothing is hidden from one query that is not hidden from
// another one.
func seesMore(l []api.Entry, more, less api.Query) bool {
	return !slices.ContainsFunc(l, func(e api.Entry) bool { return hidden(more, e) && !hidden(less, e) })
}

// P11.12: the mean for a reader contains that for each reader from whom less is
// hidden, and a Yes or No is the answer for this one, too.
func TestTrueAnswers(t *testing.T) {
	r := rand.New(rand.NewSource(8))
	narrower, open := 0, 0
	for range 6000 {
		s, _ := someShore(r)
		a := filled(t, s.series, s.l...)
		q := s.query(r)
		more := q
		if r.Intn(2) == 0 {
			more.Now = q.Now + r.Int63n(most-q.Now+1)
		}
		if r.Intn(2) == 0 {
			more.Reader = r.Intn(5)
		}
		l := s.finds(q)
		if len(l) == 0 || !seesMore(l, more, q) {
			continue
		}
		mean, _ := a.Mean(q)
		known, e := a.Mean(more)
		if e != api.OK || !isIn(known, mean) {
			t.Fatal(q, more, mean, known)
		}
		if known != mean {
			narrower++
		}
		for _, limit := range []int64{mean.Lo, mean.Lo + 1, known.Lo, known.Lo + 1, known.Hi, known.Hi + 1, mean.Hi, mean.Hi + 1} {
			x, _ := a.Below(q, limit)
			y, _ := a.Below(more, limit)
			if x != api.Open && y != x {
				t.Fatal(q, more, limit, x, y)
			}
			if x != y {
				open++
			}
		}
	}
	if narrower < 200 || open < 200 {
		t.Error(narrower, open)
	}
}

// P11.12: a mean contains the mean of the true values, whoever asks.
func TestTrueMeans(t *testing.T) {
	r := rand.New(rand.NewSource(9))
	for range 1500 {
		s, _ := someShore(r)
		a := filled(t, s.series, s.l...)
		q := s.query(r)
		sum, n := int64(0), int64(0)
		for _, e := range s.finds(q) {
			sum, n = sum+someIn(r, e.Value).Lo, n+1
		}
		mean, e := a.Mean(q)
		if n > 0 && (e != api.OK || mean.Lo*n > sum || mean.Hi*n < sum) {
			t.Fatal(q, mean, sum, n)
		}
	}
}
