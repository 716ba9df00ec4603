package archive_test

import (
	"math"
	"math/rand"
	"reflect"
	"slices"
	"testing"

	"isobath/api"
	"isobath/archive"
)

// noArchives returns archives that are not valid: a struct that was copied is not
// what New returned.
func noArchives(t *testing.T) []*archive.Archive {
	t.Helper()
	a := filled(t, pair(), three()...)
	copied, changed := *a, *a.Copy()
	emptied, other := a.Copy(), a.Copy()
	*emptied = archive.Archive{}
	*other = *a
	return []*archive.Archive{nil, {}, new(archive.Archive), &copied, &changed, emptied, other}
}

// R4, for P11.1 to P11.8: an archive that is not valid has nothing, and does
// nothing.
func TestNoArchive(t *testing.T) {
	whole := filled(t, pair(), three()...)
	for i, a := range noArchives(t) {
		for _, q := range []api.Query{ask(1), {}, {Reader: -1}} {
			l, n, e := a.Find(q)
			equal(t, i, l, e, nil, api.ErrNil)
			same(t, i, n, e, 0, api.ErrNil)
			mean, e := a.Mean(q)
			same(t, i, mean, e, api.Span{}, api.ErrNil)
			answer, e := a.Below(q, 9)
			same(t, i, answer, e, api.No, api.ErrNil)
			p, e := a.Publish(q)
			same(t, i, p, e, api.Product{}, api.ErrNil)
			same(t, i, a.CheckProduct(api.Product{Query: q}), api.OK, api.ErrNil, api.OK)
		}
		for _, x := range []int64{10, -1} {
			e, wrong := a.Counts(0, x, x)
			same(t, i, e, wrong, api.Entry{}, api.ErrNil)
			text, wrong := a.Text(x)
			same(t, i, text, wrong, "", api.ErrNil)
		}
		for _, e := range append(three(), api.Entry{}) {
			same(t, i, a.Add(e), api.OK, api.ErrNil, api.OK)
		}
		for _, b := range append(noArchives(t), whole) {
			same(t, i, a.Merge(b), api.OK, api.ErrNil, api.OK)
		}
		same(t, i, whole.Merge(a), api.OK, api.ErrNil, api.OK)
		if len(a.Entries()) != 0 || a.Copy() != nil {
			t.Error(i, a.Entries(), a.Copy())
		}
	}
	shore{pair(), three()}.holds(t, rand.New(rand.NewSource(14)), whole, 5)
}

// R4: what is done with a struct that was copied does not change the archive.
func TestCopiedStruct(t *testing.T) {
	a := filled(t, pair(), first())
	b := *a
	b.Add(second())
	b.Merge(filled(t, pair(), third()))
	equal(t, "archive", a.Entries(), api.OK, []api.Entry{first()}, api.OK)
}

// R5: nothing is kept of series that are changed after a call, and none is
// changed, also where they are a part of a longer list.
func TestSeriesAreNotKept(t *testing.T) {
	longer := append(pair(), many(3)...)
	before := slices.Clone(longer)
	a := made(t, longer[:2])
	b, e := archive.Parse(longer[:2], lineOf(first()))
	same(t, "Parse", b != nil, e, true, api.OK)
	c := b.Copy()
	if !slices.Equal(longer, before) {
		t.Error(longer)
	}
	clear(longer)
	for i, x := range []*archive.Archive{a, b, c} {
		if i == 0 {
			same(t, i, x.Add(first()), api.OK, api.OK, api.OK)
		}
		same(t, i, x.Add(second()), api.OK, api.OK, api.OK)
		same(t, i, x.Merge(filled(t, pair(), third())), api.OK, api.OK, api.OK)
		shore{pair(), three()}.holds(t, rand.New(rand.NewSource(15)), x, 5)
	}
}

// spoil changes a result, also behind its end.
func spoil[T any](l []T) {
	clear(l)
	clear(l[:cap(l)])
}

// R5: results share no memory with an archive, a copy of it, or other results.
func TestResultsAreNew(t *testing.T) {
	r := rand.New(rand.NewSource(16))
	for range 300 {
		s, _ := someShore(r)
		a := filled(t, s.series, s.l...)
		b := a.Copy()
		q := s.query(r)
		want, _ := s.find(q)
		l, _, _ := a.Find(q)
		again, _, _ := a.Find(q)
		spoil(l)
		equal(t, q, again, api.OK, want, api.OK)
		all := a.Entries()
		spoil(a.Entries())
		spoil(b.Entries())
		equal(t, s, all, api.OK, s.inOrder(), api.OK)
		spoil(all)
		s.holds(t, r, a, 1)
		s.holds(t, r, b, 1)
	}
}

// R5 and P11.3: an archive shares no memory with one that was merged into it.
func TestMergedIsAlone(t *testing.T) {
	a, b := made(t, pair()), filled(t, pair(), first())
	same(t, "Merge", a.Merge(b), api.OK, api.OK, api.OK)
	b.Add(second())
	a.Add(third())
	equal(t, "a", a.Entries(), api.OK, []api.Entry{first(), third()}, api.OK)
	equal(t, "b", b.Entries(), api.OK, []api.Entry{first(), second()}, api.OK)
}

// R10: equal calls return equal results, also of a copy and of what its text tells.
func TestAgain(t *testing.T) {
	r := rand.New(rand.NewSource(17))
	for range 200 {
		s, _ := someShore(r)
		a := filled(t, s.series, s.l...)
		text, _ := a.Text(most)
		b, e := archive.Parse(s.series, text)
		same(t, s, b != nil, e, true, api.OK)
		q := s.query(r)
		want := forReader(a, q)
		for _, x := range []*archive.Archive{a, a.Copy(), b} {
			if got := forReader(x, q); !reflect.DeepEqual(got, want) {
				t.Fatal(q, got, want)
			}
		}
	}
}

// wild returns a number that may be anything.
func wild(r *rand.Rand) int64 {
	limits := []int64{-1, 0, 1, 2, 9, 10, 63, 64, revised, revised + 1, most, most + 1, -most, 1 << 32, 1 << 62, math.MinInt64, math.MinInt64 + 1, math.MaxInt64}
	switch r.Intn(3) {
	case 0:
		return int64(r.Uint64())
	case 1:
		return limits[r.Intn(len(limits))]
	}
	return r.Int63n(30)
}

// wildArguments returns arguments of which a few may have any numbers.
func wildArguments(r *rand.Rand, t *testing.T) arguments {
	a := good(t)
	a.limit = wild(r)
	for range r.Intn(3) {
		numbers := []*int64{&a.time, &a.asOf, &a.e.Time, &a.e.Arrived, &a.e.Free, &a.e.Value.Lo, &a.e.Value.Hi, &a.q.Now, &a.q.AsOf, &a.q.From, &a.q.To, &a.p.Query.Now, &a.p.Query.From, &a.p.Mean.Lo}
		indexes := []*int{&a.series, &a.e.Series, &a.e.Version, &a.e.Owner, &a.q.Reader, &a.q.Series, &a.p.Query.Series, &a.p.Count, &a.p.Hidden}
		if i := r.Intn(len(numbers) + len(indexes)); i < len(numbers) {
			*numbers[i] = wild(r)
		} else {
			*indexes[i-len(numbers)] = int(wild(r))
		}
	}
	if r.Intn(4) == 0 {
		a.text = changed(r, a.text)
	}
	if r.Intn(9) == 0 {
		a.s[r.Intn(2)] = api.Series{Name: "temp", Bounds: span(wild(r), wild(r))}
	}
	return a
}

// P1 and R2: every function ends for any numbers; with an error all other results
// are zero values, and nothing has changed.
func TestAnyNumbers(t *testing.T) {
	r := rand.New(rand.NewSource(18))
	for range 20000 {
		a := wildArguments(r, t)
		f := calls()[r.Intn(len(calls()))]
		before := a.a.Entries()
		zero, e := f.do(a)
		if e == api.OK {
			continue
		}
		if !zero || !slices.Contains([]api.Errno{api.ErrArg, api.ErrNone, api.ErrForm, api.ErrHave, api.ErrSum}, e) {
			t.Fatal(f.name, a, zero, e)
		}
		equal(t, f.name, a.a.Entries(), api.OK, before, api.OK)
	}
}
