package archive_test

import (
	"cmp"
	"fmt"
	"hash/fnv"
	"math/rand"
	"slices"
	"strings"
	"testing"

	"isobath/api"
	"isobath/archive"
)

const (
	most    = api.MaxValue
	revised = api.MaxRevised
	owners  = api.MaxOwners
)

func span(lo, hi int64) api.Span { return api.Span{Lo: lo, Hi: hi} }

// pair returns the series of the chapter's examples.
func pair() []api.Series {
	return []api.Series{{Name: "temp", Bounds: span(0, 400)}, {Name: "salt", Bounds: span(0, 50)}}
}

// The entries of the chapter's examples.

func first() api.Entry {
	return api.Entry{Time: 10, Arrived: 20, Owner: 1, Value: span(100, 104), Cause: "raw"}
}

func second() api.Entry {
	return api.Entry{Time: 11, Arrived: 21, Owner: 2, Free: 1000, Value: span(110, 110), Cause: "raw"}
}

func third() api.Entry {
	return api.Entry{Time: 10, Version: 1, Arrived: 50, Owner: 1, Value: span(101, 103), Cause: "raw"}
}

func three() []api.Entry { return []api.Entry{first(), second(), third()} }

// ask returns the query of the chapter's examples for a reader.
func ask(reader int) api.Query {
	return api.Query{Reader: reader, Now: 100, AsOf: 60, From: 0, To: 100}
}

// made returns a new archive.
func made(t *testing.T, s []api.Series) *archive.Archive {
	t.Helper()
	a, e := archive.New(s)
	if a == nil || e != api.OK {
		t.Fatal(s, e)
	}
	return a
}

// filled returns an archive to which entries were added.
func filled(t *testing.T, s []api.Series, l ...api.Entry) *archive.Archive {
	t.Helper()
	a := made(t, s)
	for _, x := range l {
		if e := a.Add(x); e != api.OK {
			t.Fatal(x, e)
		}
	}
	return a
}

// full returns as many different entries as an archive can have.
func full() []api.Entry {
	l := make([]api.Entry, api.MaxEntries)
	for i := range l {
		l[i] = first()
		l[i].Time, l[i].Version = int64(i/2), i%2
	}
	return l
}

// equal compares a list that a function returns, and its error, with those that
// are wanted.
func equal[T comparable](t *testing.T, name any, got []T, e api.Errno, want []T, wantErr api.Errno) {
	t.Helper()
	if !slices.Equal(got, want) || e != wantErr {
		t.Fatalf("%v: %v, %v; want %v, %v", name, got, e, want, wantErr)
	}
}

// same compares what a function returns, and its error, with what is wanted.
func same[T comparable](t *testing.T, name any, got T, e api.Errno, want T, wantErr api.Errno) {
	t.Helper()
	if got != want || e != wantErr {
		t.Fatalf("%v: %v, %v; want %v, %v", name, got, e, want, wantErr)
	}
}

// The chapter's definitions, as they are written.

// shore is an archive: its series, and its entries in any order.
type shore struct {
	series []api.Series
	l      []api.Entry
}

// with returns a shore with further entries.
func (s shore) with(l ...api.Entry) shore {
	return shore{s.series, append(slices.Clone(s.l), l...)}
}

// isName tells whether a string is a name.
func isName(s string) bool {
	if len(s) == 0 || len(s) > 20 {
		return false
	}
	return strings.Trim(s, "abcdefghijklmnopqrstuvwxyz0123456789") == ""
}

// isTime tells whether a number is a time.
func isTime(x int64) bool { return x >= 0 && x <= most }

// isSpan tells whether a span is valid.
func isSpan(s api.Span) bool { return -most <= s.Lo && s.Lo <= s.Hi && s.Hi <= most }

// isEntry tells whether an entry is valid.
func (s shore) isEntry(e api.Entry) bool {
	if e.Series < 0 || e.Series >= len(s.series) || !isTime(e.Time) || !isTime(e.Arrived) || !isTime(e.Free) {
		return false
	}
	if e.Version < 0 || e.Version > 1<<20 || e.Owner < 0 || e.Owner > 63 || !isName(e.Cause) {
		return false
	}
	b := s.series[e.Series].Bounds
	return isSpan(e.Value) && b.Lo <= e.Value.Lo && e.Value.Hi <= b.Hi
}

// collides tells whether two entries collide.
func collides(e, f api.Entry) bool {
	return e.Series == f.Series && e.Time == f.Time && e.Version == f.Version && e != f
}

// has tells whether a shore has an entry that collides with another one.
func (s shore) has(e api.Entry) bool {
	return slices.ContainsFunc(s.l, func(f api.Entry) bool { return collides(e, f) })
}

// add adds an entry.
func (s *shore) add(e api.Entry) api.Errno {
	switch {
	case !s.isEntry(e):
		return api.ErrArg
	case s.has(e):
		return api.ErrHave
	case slices.Contains(s.l, e):
		return api.OK
	case len(s.l) >= 1024:
		return api.ErrFull
	}
	s.l = append(s.l, e)
	return api.OK
}

// merge adds all entries of another shore.
func (s *shore) merge(other shore) api.Errno {
	if !slices.Equal(s.series, other.series) {
		return api.ErrEqual
	}
	if slices.ContainsFunc(other.l, s.has) {
		return api.ErrHave
	}
	l := slices.Clone(s.l)
	for _, e := range other.l {
		if !slices.Contains(l, e) {
			l = append(l, e)
		}
	}
	if len(l) > 1024 {
		return api.ErrFull
	}
	s.l = l
	return api.OK
}

// inOrder returns all entries, in order.
func (s shore) inOrder() []api.Entry {
	l := slices.Clone(s.l)
	slices.SortFunc(l, func(e, f api.Entry) int {
		if e.Series != f.Series {
			return cmp.Compare(e.Series, f.Series)
		}
		if e.Time != f.Time {
			return cmp.Compare(e.Time, f.Time)
		}
		return cmp.Compare(e.Version, f.Version)
	})
	return l
}

// asOf returns the entries as of a time, in order.
func (s shore) asOf(a int64) []api.Entry {
	return slices.DeleteFunc(s.inOrder(), func(e api.Entry) bool { return e.Arrived > a })
}

// counts returns the entry that counts, and whether there is one.
func (s shore) counts(series int, time, asOf int64) (api.Entry, bool) {
	var best api.Entry
	found := false
	for _, e := range s.asOf(asOf) {
		if e.Series == series && e.Time == time && (!found || e.Version > best.Version) {
			best, found = e, true
		}
	}
	return best, found
}

// isQuery tells whether a query is valid.
func (s shore) isQuery(q api.Query) bool {
	if q.Reader < 0 || q.Reader > 63 || q.Series < 0 || q.Series >= len(s.series) {
		return false
	}
	return isTime(q.Now) && isTime(q.AsOf) && isTime(q.From) && isTime(q.To) && q.From < q.To
}

// finds returns what a query finds, in order.
func (s shore) finds(q api.Query) []api.Entry {
	var l []api.Entry
	for _, e := range s.asOf(q.AsOf) {
		best, _ := s.counts(q.Series, e.Time, q.AsOf)
		if e == best && e.Time >= q.From && e.Time <= q.To-1 {
			l = append(l, e)
		}
	}
	return l
}

// hidden tells whether an entry is hidden from a query.
func hidden(q api.Query, e api.Entry) bool { return e.Owner != q.Reader && e.Free > q.Now }

// find returns what Find returns for a valid query.
func (s shore) find(q api.Query) ([]api.Entry, int) {
	var l []api.Entry
	n := 0
	for _, e := range s.finds(q) {
		if hidden(q, e) {
			n++
		} else {
			l = append(l, e)
		}
	}
	return l, n
}

// mean returns what Mean returns for a valid query.
func (s shore) mean(q api.Query) (api.Span, api.Errno) {
	l := s.finds(q)
	if len(l) == 0 {
		return api.Span{}, api.ErrNone
	}
	var sum api.Span
	for _, e := range l {
		known := e.Value
		if hidden(q, e) {
			known = s.series[q.Series].Bounds
		}
		sum.Lo += known.Lo
		sum.Hi += known.Hi
	}
	n := int64(len(l))
	mean := span(sum.Lo/n-2, sum.Hi/n+2)
	for (mean.Lo+1)*n <= sum.Lo {
		mean.Lo++
	}
	for (mean.Hi-1)*n >= sum.Hi {
		mean.Hi--
	}
	return mean, api.OK
}

// below returns whether a mean is below a limit.
func below(mean api.Span, limit int64) api.Answer {
	if mean.Hi < limit {
		return api.Yes
	}
	if mean.Lo >= limit {
		return api.No
	}
	return api.Open
}

// lineOf returns the line of an entry.
func lineOf(e api.Entry) string {
	return fmt.Sprintf("entry %d %d %d %d %d %d %d %d %s\n", e.Series, e.Time, e.Version, e.Arrived, e.Owner, e.Free, e.Value.Lo, e.Value.Hi, e.Cause)
}

// linesOf returns the lines of entries.
func linesOf(l []api.Entry) string {
	text := ""
	for _, e := range l {
		text += lineOf(e)
	}
	return text
}

// text returns the text as of a time.
func (s shore) text(a int64) string { return linesOf(s.asOf(a)) }

// product returns the product of a valid query.
func (s shore) product(q api.Query) api.Product {
	l, n := s.find(q)
	sum := fnv.New64a()
	sum.Write([]byte(linesOf(l)))
	mean, _ := s.mean(q)
	return api.Product{Query: q, Count: len(l) + n, Hidden: n, Mean: mean, Sum: sum.Sum64()}
}

// holds compares an archive with a shore, for many queries.
func (s shore) holds(t *testing.T, r *rand.Rand, a *archive.Archive, queries int) {
	t.Helper()
	equal(t, s, a.Entries(), api.OK, s.inOrder(), api.OK)
	for range queries {
		s.answers(t, a, s.query(r))
	}
}

// answers compares what an archive returns for a query with what a shore does.
func (s shore) answers(t *testing.T, a *archive.Archive, q api.Query) {
	t.Helper()
	l, n, e := a.Find(q)
	want, many := s.find(q)
	equal(t, q, l, e, want, api.OK)
	same(t, q, n, e, many, api.OK)
	mean, e := a.Mean(q)
	wantMean, wantErr := s.mean(q)
	same(t, q, mean, e, wantMean, wantErr)
	for _, limit := range []int64{wantMean.Lo, wantMean.Lo + 1, wantMean.Hi, wantMean.Hi + 1} {
		x, e := a.Below(q, limit)
		if wantErr != api.OK {
			same(t, q, x, e, api.No, wantErr)
		} else {
			same(t, q, x, e, below(wantMean, limit), api.OK)
		}
	}
	p, e := a.Publish(q)
	same(t, q, p, e, s.product(q), api.OK)
	same(t, q, a.CheckProduct(p), api.OK, api.OK, api.OK)
	text, e := a.Text(q.AsOf)
	same(t, q, text, e, s.text(q.AsOf), api.OK)
	for _, time := range []int64{q.From, q.To} {
		x, e := a.Counts(q.Series, time, q.AsOf)
		if want, ok := s.counts(q.Series, time, q.AsOf); ok {
			same(t, q, x, e, want, api.OK)
		} else {
			same(t, q, x, e, api.Entry{}, api.ErrNone)
		}
	}
}

// Random shores.

// size is how great random shores are: their series and entries, and the greatest
// time, version, time of arrival, owner, time of an embargo's end, and value.
type size struct {
	series, entries int
	time            int64
	version         int
	arrived         int64
	owner           int
	free            int64
	value           int64
	causes          int
	negative        bool
}

// sizes returns sizes of small and of great shores.
func sizes() []size {
	return []size{
		{series: 2, entries: 20, time: 5, version: 2, arrived: 9, owner: 2, free: 12, value: 20, causes: 2},
		{series: 1, entries: 9, time: 2, version: 3, arrived: 5, owner: 1, free: 3, value: 5, causes: 1, negative: true},
		{series: 3, entries: 40, time: 30, version: 4, arrived: 40, owner: 5, free: 60, value: 1000, causes: 9, negative: true},
		{series: 16, entries: 60, time: most - 1, version: revised, arrived: most, owner: owners - 1, free: most, value: most, causes: 9, negative: true},
		{series: 16, entries: 60, time: 9, version: 1, arrived: most, owner: 3, free: most, value: most, causes: 2},
	}
}

// nameOf returns the name with a number.
func nameOf(i int) string {
	return []string{"raw", "a", "0", "clim5", "zzzzzzzzzzzzzzzzzzzz", "99999999999999999999", "9z", "salt", "entry"}[i]
}

// bounds returns random bounds.
func (z size) bounds(r *rand.Rand) api.Span {
	lo, hi := r.Int63n(z.value+1), r.Int63n(z.value+1)
	if z.negative {
		lo, hi = 2*lo-z.value, 2*hi-z.value
	}
	return span(min(lo, hi), max(lo, hi))
}

// shore returns a random shore without entries.
func (z size) shore(r *rand.Rand) shore {
	var s shore
	for i := range z.series {
		s.series = append(s.series, api.Series{Name: fmt.Sprint("s", i), Bounds: z.bounds(r)})
	}
	return s
}

// someIn returns a random span in another one.
func someIn(r *rand.Rand, s api.Span) api.Span {
	a, b := s.Lo+r.Int63n(s.Hi-s.Lo+1), s.Lo+r.Int63n(s.Hi-s.Lo+1)
	return span(min(a, b), max(a, b))
}

// entry returns a random valid entry.
func (z size) entry(r *rand.Rand, s shore) api.Entry {
	i := r.Intn(len(s.series))
	return api.Entry{
		Series: i, Time: r.Int63n(z.time + 1), Version: r.Intn(z.version + 1), Arrived: r.Int63n(z.arrived + 1),
		Owner: r.Intn(z.owner + 1), Free: r.Int63n(z.free + 1), Value: someIn(r, s.series[i].Bounds), Cause: nameOf(r.Intn(z.causes)),
	}
}

// filled returns a random shore with entries that do not collide.
func (z size) filled(r *rand.Rand) shore {
	s := z.shore(r)
	for range r.Intn(z.entries + 1) {
		s.add(z.entry(r, s))
	}
	return s
}

// query returns a random valid query. Its numbers are near those of entries.
func (s shore) query(r *rand.Rand) api.Query {
	q := api.Query{Reader: r.Intn(4), Series: r.Intn(len(s.series)), To: 1 + r.Int63n(8), Now: r.Int63n(14), AsOf: r.Int63n(10)}
	if len(s.l) == 0 {
		return q
	}
	some := func() api.Entry { return s.l[r.Intn(len(s.l))] }
	a, b := some(), some()
	q.Series = a.Series
	q.From, q.To = min(a.Time, b.Time), min(max(a.Time, b.Time)+r.Int63n(2), most)
	if r.Intn(3) == 0 {
		q.From = 0
	}
	if q.From >= q.To {
		q.From, q.To = max(q.From-1, 0), max(q.From, 1)
	}
	q.Reader, q.Now, q.AsOf = some().Owner, some().Free, some().Arrived
	if r.Intn(3) == 0 {
		q.Reader, q.Now = r.Intn(owners), max(q.Now-1, 0)
	}
	if r.Intn(3) == 0 {
		q.AsOf = max(q.AsOf-1, 0)
	}
	if r.Intn(3) == 0 {
		q.AsOf = most
	}
	return q
}

// someShore returns a random shore of any of the sizes, and its size.
func someShore(r *rand.Rand) (shore, size) {
	l := sizes()
	z := l[r.Intn(len(l))]
	return z.filled(r), z
}
