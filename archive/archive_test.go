package archive_test

import (
	"fmt"
	"math"
	"math/rand"
	"slices"
	"strings"
	"testing"

	"isobath/api"
	"isobath/archive"
)

// The chapter's examples, for P11.4 to P11.8.
func TestExamples(t *testing.T) {
	a := filled(t, pair(), three()...)
	for asOf, want := range map[int64]api.Entry{20: first(), 50: third()} {
		got, e := a.Counts(0, 10, asOf)
		same(t, asOf, got, e, want, api.OK)
	}
	l, n, e := a.Find(ask(1))
	equal(t, "Find", l, e, []api.Entry{third()}, api.OK)
	same(t, "hidden", n, e, 1, api.OK)
	for reader, want := range map[int]api.Span{1: span(50, 252), 2: span(105, 107)} {
		mean, e := a.Mean(ask(reader))
		same(t, reader, mean, e, want, api.OK)
	}
	for _, x := range []struct {
		reader int
		limit  int64
		want   api.Answer
	}{{1, 253, api.Yes}, {1, 106, api.Open}, {2, 106, api.Open}} {
		answer, e := a.Below(ask(x.reader), x.limit)
		same(t, x, answer, e, x.want, api.OK)
	}
	text, e := a.Text(20)
	same(t, "Text", text, e, "entry 0 10 0 20 1 0 100 104 raw\n", api.OK)
	p, e := made(t, pair()).Publish(ask(1))
	same(t, "nothing", p, e, api.Product{Query: ask(1), Sum: 14695981039346656037}, api.OK)
}

// many returns series with short names.
func many(n int) []api.Series {
	var l []api.Series
	for i := range n {
		l = append(l, api.Series{Name: fmt.Sprint("s", i), Bounds: span(0, 9)})
	}
	return l
}

// names returns strings, and whether they are names.
func names() map[string]bool {
	l := map[string]bool{
		"": false, "a": true, "z": true, "0": true, "9": true, "azm059": true, "entry": true,
		strings.Repeat("q", 20): true, strings.Repeat("q", 21): false, strings.Repeat("1", 20): true,
		"a b": false, " a": false, "a\n": false, "a-b": false, "a_b": false, "a.b": false, "\x00": false,
		"é": false, "aé": false, "\xff": false, "a\xffb": false, "ａ": false, "٣": false, "-1": false, "+": false,
	}
	for c := range 128 {
		is := c >= 'a' && c <= 'z' || c >= '0' && c <= '9'
		l[string(rune(c))], l["x"+string(rune(c))+"9"] = is, is
	}
	return l
}

// errnoOf returns OK for true, and an error for false.
func errnoOf(ok bool, wrong api.Errno) api.Errno {
	if ok {
		return api.OK
	}
	return wrong
}

// newOf checks what New returns.
func newOf(t *testing.T, s []api.Series, want api.Errno) {
	t.Helper()
	a, e := archive.New(s)
	if e != want || (a == nil) != (e != api.OK) {
		t.Errorf("%v: %v, %v; want %v", s, a, e, want)
	}
	if e == api.OK && len(a.Entries()) != 0 {
		t.Error(s, a.Entries())
	}
}

// P11.1: New asks for from 1 to 16 series with names and bounds, no two with the
// same name.
func TestNew(t *testing.T) {
	for n, want := range map[int]api.Errno{0: api.ErrMany, 1: api.OK, 15: api.OK, 16: api.OK, 17: api.ErrMany, 300: api.ErrMany} {
		newOf(t, many(n), want)
	}
	newOf(t, nil, api.ErrMany)
	for name, ok := range names() {
		newOf(t, append(many(2), api.Series{Name: name, Bounds: span(0, 1)}), errnoOf(ok, api.ErrArg))
	}
	for _, x := range []struct {
		bounds api.Span
		want   api.Errno
	}{
		{span(0, 0), api.OK}, {span(-most, most), api.OK}, {span(most, most), api.OK}, {span(-most, -most), api.OK},
		{span(1, 0), api.ErrArg}, {span(-most-1, 0), api.ErrArg}, {span(0, most+1), api.ErrArg}, {span(math.MinInt64, math.MaxInt64), api.ErrArg},
	} {
		newOf(t, []api.Series{{Name: "a", Bounds: x.bounds}}, x.want)
	}
	for i := range 16 {
		s := many(16)
		s[i].Name = s[(i+1)%16].Name
		newOf(t, s, api.ErrArg)
	}
	newOf(t, append(many(16), api.Series{}), api.ErrMany)
	newOf(t, []api.Series{{Name: "a", Bounds: span(0, 1)}, {Name: "aa", Bounds: span(0, 1)}}, api.OK)
}

// bend is a change of an entry, and whether it is valid then.
type bend struct {
	change func(e *api.Entry)
	ok     bool
}

// times returns changes of a number that has to be from 0 to a limit.
func times(limit int64, set func(e *api.Entry, x int64)) []bend {
	var l []bend
	for _, x := range []int64{math.MinInt64, -most, -1, 0, 1, limit - 1, limit, limit + 1, 1 << 31, 1<<32 + 1, 1 << 62, math.MaxInt64} {
		l = append(l, bend{func(e *api.Entry) { set(e, x) }, x >= 0 && x <= limit})
	}
	return l
}

// values returns changes of the value of an entry with bounds from -30 to 40.
func values() []bend {
	var l []bend
	for _, lo := range []int64{math.MinInt64, -most - 1, -31, -30, 0, 40, 41, most, most + 1} {
		for _, hi := range []int64{math.MinInt64, -31, -30, 0, 40, 41, most, most + 1, math.MaxInt64} {
			l = append(l, bend{func(e *api.Entry) { e.Value = span(lo, hi) }, -30 <= lo && lo <= hi && hi <= 40})
		}
	}
	return l
}

// bends returns changes of an entry of the second of two series.
func bends() []bend {
	l := slices.Concat(
		times(1, func(e *api.Entry, x int64) { e.Series = int(x) }),
		times(most, func(e *api.Entry, x int64) { e.Time = x }),
		times(revised, func(e *api.Entry, x int64) { e.Version = int(x) }),
		times(most, func(e *api.Entry, x int64) { e.Arrived = x }),
		times(63, func(e *api.Entry, x int64) { e.Owner = int(x) }),
		times(most, func(e *api.Entry, x int64) { e.Free = x }),
		values(),
	)
	for name, ok := range names() {
		l = append(l, bend{func(e *api.Entry) { e.Cause = name }, ok})
	}
	return l
}

// P11.2: Add asks for a valid entry.
func TestAddAsksForValidEntries(t *testing.T) {
	s := []api.Series{{Name: "a", Bounds: span(0, 0)}, {Name: "b", Bounds: span(-30, 40)}}
	for i, x := range bends() {
		e := api.Entry{Series: 1, Time: 5, Version: 6, Arrived: 7, Owner: 8, Free: 9, Cause: "c"}
		x.change(&e)
		a := made(t, s)
		want, l := api.OK, []api.Entry{e}
		if !x.ok {
			want, l = api.ErrArg, nil
		}
		same(t, i, a.Add(e), api.OK, want, api.OK)
		equal(t, i, a.Entries(), api.OK, l, api.OK)
	}
}

// others returns entries that collide with an entry, one for each thing in which
// they can differ.
func others(e api.Entry) []api.Entry {
	l := make([]api.Entry, 6)
	for i := range l {
		l[i] = e
	}
	l[0].Arrived++
	l[1].Owner++
	l[2].Free++
	l[3].Value.Lo++
	l[4].Value.Hi--
	l[5].Cause += "0"
	return l
}

// P11.2: an entry that collides with another one is not added, one that is there
// already changes nothing, and other ones are added.
func TestAddOfKnownEntries(t *testing.T) {
	a := filled(t, pair(), three()...)
	before := a.Entries()
	for _, e := range three() {
		same(t, e, a.Add(e), api.OK, api.OK, api.OK)
		for _, other := range others(e)[:3] {
			same(t, other, a.Add(other), api.OK, api.ErrHave, api.OK)
		}
	}
	for _, other := range append(others(first()), others(third())...) {
		same(t, other, a.Add(other), api.OK, api.ErrHave, api.OK)
	}
	equal(t, "Entries", a.Entries(), api.OK, before, api.OK)
	next := []api.Entry{first(), first(), first()}
	next[0].Series, next[0].Value = 1, span(5, 5)
	next[1].Time = 12
	next[2].Version = 2
	for _, e := range next {
		same(t, e, a.Add(e), api.OK, api.OK, api.OK)
	}
	equal(t, "Entries", a.Entries(), api.OK, []api.Entry{first(), third(), next[2], second(), next[1], next[0]}, api.OK)
}

// P11.2: an archive has at most 1,024 entries.
func TestAddToFullArchive(t *testing.T) {
	l := full()
	a := filled(t, pair(), l...)
	equal(t, "full", a.Entries(), api.OK, l, api.OK)
	other := first()
	other.Time = 5000
	same(t, "other", a.Add(other), api.OK, api.ErrFull, api.OK)
	same(t, "known", a.Add(l[7]), api.OK, api.OK, api.OK)
	l[8].Owner++
	same(t, "collides", a.Add(l[8]), api.OK, api.ErrHave, api.OK)
	other.Owner = -1
	same(t, "not valid", a.Add(other), api.OK, api.ErrArg, api.OK)
	equal(t, "full", a.Entries(), api.OK, full(), api.OK)
	b := filled(t, pair(), l[1:]...)
	same(t, "the last one", b.Add(l[0]), api.OK, api.OK, api.OK)
}

// P11.2 and P11.3: Add and Entries agree with the definitions, whatever is added.
func TestAddOfAnyEntries(t *testing.T) {
	r := rand.New(rand.NewSource(1))
	counts := map[api.Errno]int{}
	for range 400 {
		z := sizes()[r.Intn(len(sizes()))]
		s := z.shore(r)
		a := made(t, s.series)
		for range r.Intn(2 * z.entries) {
			e := z.entry(r, s)
			if r.Intn(5) == 0 && len(s.l) > 0 {
				e = s.l[r.Intn(len(s.l))]
			}
			if r.Intn(9) == 0 {
				l := bends()
				l[r.Intn(len(l))].change(&e)
			}
			want := s.add(e)
			counts[want]++
			same(t, e, a.Add(e), api.OK, want, api.OK)
			equal(t, e, a.Entries(), api.OK, s.inOrder(), api.OK)
		}
	}
	for _, e := range []api.Errno{api.OK, api.ErrArg, api.ErrHave} {
		if counts[e] < 300 {
			t.Error(counts)
		}
	}
}

// P11.1 and P11.15: a copy has the same entries, and does not change with the
// archive, nor the archive with it.
func TestCopy(t *testing.T) {
	r := rand.New(rand.NewSource(2))
	for range 300 {
		s, z := someShore(r)
		a := filled(t, s.series, s.l...)
		b := a.Copy()
		if b == nil || b == a {
			t.Fatal(s)
		}
		s.holds(t, r, b, 3)
		left, right := s.with(), s.with()
		for range 9 {
			e, f := z.entry(r, s), z.entry(r, s)
			same(t, e, a.Add(e), api.OK, left.add(e), api.OK)
			same(t, f, b.Add(f), api.OK, right.add(f), api.OK)
		}
		c := b.Copy()
		same(t, s, b.Merge(a), api.OK, right.merge(left), api.OK)
		left.holds(t, r, a, 3)
		right.holds(t, r, b, 3)
		same(t, s, c.Merge(made(t, s.series)), api.OK, api.OK, api.OK)
	}
	a := filled(t, pair(), three()...)
	a.Copy().Add(api.Entry{Series: 1, Cause: "x"})
	a.Copy().Merge(filled(t, pair(), api.Entry{Cause: "x"}))
	equal(t, "alone", a.Entries(), api.OK, []api.Entry{first(), third(), second()}, api.OK)
}
