package archive_test

import (
	"slices"
	"strings"
	"testing"

	"isobath/api"
	"isobath/archive"
)

// arguments are those of all functions, and the archive whose methods they are.
type arguments struct {
	a, b       *archive.Archive
	e          api.Entry
	series     int
	time, asOf int64
	q          api.Query
	limit      int64
	p          api.Product
	s          []api.Series
	text       string
}

// fault is a way in which arguments are not as they should be, and its error.
type fault struct {
	name string
	put  func(a *arguments)
	want api.Errno
}

// call is a function with the faults that it names, in its order. It tells
// whether all results but the error are zero values.
type call struct {
	name   string
	do     func(a arguments) (bool, api.Errno)
	faults []fault
}

// good returns arguments for which all functions return OK.
func good(t *testing.T) arguments {
	t.Helper()
	x := arguments{a: filled(t, pair(), first(), second()), b: filled(t, pair(), third()), e: third(), time: 10, asOf: 60, q: ask(1), limit: 50, s: pair()}
	x.p, _ = x.a.Publish(x.q)
	x.text, _ = x.a.Text(most)
	return x
}

// fill fills an archive, unless it is not valid, with entries that have a cause.
func fill(a *archive.Archive, cause string) {
	for _, e := range full() {
		e.Time, e.Arrived, e.Free, e.Cause = e.Time+100, late, most, cause
		a.Add(e)
	}
}

// The faults of the arguments. A fault keeps what another one has put.
var (
	noArchive  = fault{"archive", func(a *arguments) { a.a = new(archive.Archive) }, api.ErrNil}
	noOther    = fault{"other archive", func(a *arguments) { a.b = new(archive.Archive) }, api.ErrNil}
	badEntry   = fault{"entry", func(a *arguments) { a.e.Owner = 64 }, api.ErrArg}
	badCollide = fault{"collides", func(a *arguments) { a.e = first(); a.e.Cause = "x" }, api.ErrHave}
	isFull     = fault{"full", func(a *arguments) { fill(a.a, "full") }, api.ErrFull}
	badSeries  = fault{"series", func(a *arguments) { a.series = 2 }, api.ErrArg}
	badTime    = fault{"time", func(a *arguments) { a.time = -1 }, api.ErrArg}
	badAsOf    = fault{"as of", func(a *arguments) { a.asOf = most + 1 }, api.ErrArg}
	noEntry    = fault{"no entry", func(a *arguments) { a.time = 9 }, api.ErrNone}
	badReader  = fault{"reader", func(a *arguments) { a.q.Reader = -1 }, api.ErrArg}
	notBefore  = fault{"not before", func(a *arguments) { a.q.From = a.q.To }, api.ErrArg}
	noFound    = fault{"nothing found", func(a *arguments) { a.q.AsOf = 0 }, api.ErrNone}
	badProduct = fault{"query of a product", func(a *arguments) { a.p.Query.Series = 2 }, api.ErrArg}
	badSum     = fault{"sum", func(a *arguments) { a.p.Sum++ }, api.ErrSum}
	isLong     = fault{"long", func(a *arguments) { a.asOf = most; fill(a.a, strings.Repeat("x", 20)) }, api.ErrLong}
	manySeries = fault{"many series", func(a *arguments) { a.s = append(many(17), a.s...) }, api.ErrMany}
	sameSeries = fault{"series twice", func(a *arguments) { a.s = append(slices.Clone(a.s), a.s[0]) }, api.ErrArg}
	longText   = fault{"long text", func(a *arguments) { a.text += strings.Repeat("x", 65537) }, api.ErrLong}
	badText    = fault{"text", func(a *arguments) { a.text += "x" }, api.ErrForm}
)

// The faults of two archives.
var (
	otherSeries = fault{"other series", func(a *arguments) { a.b = withSeries(a.b) }, api.ErrEqual}
	otherEntry  = fault{"other entry", func(a *arguments) { e := first(); e.Cause = "other"; a.b.Add(e) }, api.ErrHave}
	tooMany     = fault{"too many", func(a *arguments) { fill(a.b, "other") }, api.ErrFull}
)

// withSeries returns an archive with the entries of another one and with a series
// more.
func withSeries(a *archive.Archive) *archive.Archive {
	text, _ := a.Text(most)
	b, _ := archive.Parse(append(pair(), many(1)...), text)
	return b
}

// ofOne tells whether the value beside an error is its zero value.
func ofOne[T comparable](x T, e api.Errno) (bool, api.Errno) {
	var zero T
	return x == zero, e
}

// calls returns all functions that return errors, but New.
func calls() []call {
	ofQuery := []fault{noArchive, badReader, notBefore}
	return []call{
		{"Add", func(a arguments) (bool, api.Errno) { return true, a.a.Add(a.e) }, []fault{noArchive, badEntry, badCollide, isFull}},
		{"Merge", func(a arguments) (bool, api.Errno) { return true, a.a.Merge(a.b) }, []fault{noArchive, noOther, otherSeries, otherEntry, tooMany}},
		{"Counts", func(a arguments) (bool, api.Errno) { return ofOne(a.a.Counts(a.series, a.time, a.asOf)) }, []fault{noArchive, badSeries, badTime, badAsOf, noEntry}},
		{"Find", func(a arguments) (bool, api.Errno) {
			l, n, e := a.a.Find(a.q)
			return len(l) == 0 && n == 0, e
		}, ofQuery},
		{"Mean", func(a arguments) (bool, api.Errno) { return ofOne(a.a.Mean(a.q)) }, append(slices.Clone(ofQuery), noFound)},
		{"Below", func(a arguments) (bool, api.Errno) { return ofOne(a.a.Below(a.q, a.limit)) }, append(slices.Clone(ofQuery), noFound)},
		{"Publish", func(a arguments) (bool, api.Errno) { return ofOne(a.a.Publish(a.q)) }, ofQuery},
		{"CheckProduct", func(a arguments) (bool, api.Errno) { return true, a.a.CheckProduct(a.p) }, []fault{noArchive, badProduct, badSum}},
		{"Text", func(a arguments) (bool, api.Errno) { return ofOne(a.a.Text(a.asOf)) }, []fault{noArchive, badAsOf, isLong}},
		{"Parse", func(a arguments) (bool, api.Errno) {
			b, e := archive.Parse(a.s, a.text)
			return b == nil, e
		}, []fault{manySeries, sameSeries, longText, badText}},
	}
}

// R1 and R2, for P11.1 to P11.8: of several errors the one that is named first is
// returned, all other results are zero values, and nothing has changed.
func TestOrderOfErrors(t *testing.T) {
	for _, f := range calls() {
		if _, e := f.do(good(t)); e != api.OK {
			t.Error(f.name, "returns", e)
		}
		for i, first := range f.faults {
			for _, second := range f.faults[i:] {
				a := good(t)
				first.put(&a)
				second.put(&a)
				first.put(&a)
				before, other := a.a.Entries(), a.b.Entries()
				if zero, e := f.do(a); e != first.want || !zero {
					t.Error(f.name, "returns", e, zero, "for", first.name, "and", second.name)
				}
				equal(t, f.name, a.a.Entries(), api.OK, before, api.OK)
				equal(t, f.name, a.b.Entries(), api.OK, other, api.OK)
			}
		}
	}
}
