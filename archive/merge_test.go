package archive_test

import (
	"math/rand"
	"slices"
	"testing"

	"isobath/api"
)

// P11.3: Merge adds what the other archive has, and leaves that one as it is.
func TestMerge(t *testing.T) {
	a, b := filled(t, pair(), first(), second()), filled(t, pair(), third(), second())
	same(t, "Merge", a.Merge(b), api.OK, api.OK, api.OK)
	equal(t, "both", a.Entries(), api.OK, []api.Entry{first(), third(), second()}, api.OK)
	equal(t, "the other", b.Entries(), api.OK, []api.Entry{third(), second()}, api.OK)
	same(t, "again", a.Merge(b), api.OK, api.OK, api.OK)
	same(t, "itself", a.Merge(a), api.OK, api.OK, api.OK)
	same(t, "nothing", a.Merge(made(t, pair())), api.OK, api.OK, api.OK)
	equal(t, "both", a.Entries(), api.OK, []api.Entry{first(), third(), second()}, api.OK)
	c := made(t, pair())
	same(t, "into nothing", c.Merge(a), api.OK, api.OK, api.OK)
	equal(t, "into nothing", c.Entries(), api.OK, a.Entries(), api.OK)
	same(t, "Add", b.Add(first()), api.OK, api.OK, api.OK)
	equal(t, "into nothing", c.Entries(), api.OK, a.Entries(), api.OK)
}

// P11.3: both archives have to have the same series, in the same order.
func TestMergeOfOtherSeries(t *testing.T) {
	swapped := pair()
	slices.Reverse(swapped)
	named, low, high := pair(), pair(), pair()
	named[1].Name, low[0].Bounds.Lo, high[1].Bounds.Hi = "sal", -1, 51
	for _, s := range [][]api.Series{swapped, named, low, high, pair()[:1], append(pair(), api.Series{Name: "x"})} {
		a, b := filled(t, pair(), first()), made(t, s)
		same(t, s, a.Merge(b), api.OK, api.ErrEqual, api.OK)
		same(t, s, b.Merge(a), api.OK, api.ErrEqual, api.OK)
		equal(t, s, a.Entries(), api.OK, []api.Entry{first()}, api.OK)
		equal(t, s, b.Entries(), api.OK, nil, api.OK)
	}
}

// P11.3: with an entry that collides nothing is added, also if there would be too
// many entries.
func TestMergeOfOtherEntries(t *testing.T) {
	last := first()
	last.Time = 9999
	for i, e := range others(first()) {
		a, b := filled(t, pair(), first(), second()), filled(t, pair(), third(), e, last)
		same(t, i, a.Merge(b), api.OK, api.ErrHave, api.OK)
		same(t, i, b.Merge(a), api.OK, api.ErrHave, api.OK)
		equal(t, i, a.Entries(), api.OK, []api.Entry{first(), second()}, api.OK)
		equal(t, i, b.Entries(), api.OK, []api.Entry{e, third(), last}, api.OK)
		c := filled(t, pair(), full()...)
		same(t, i, c.Merge(b), api.OK, api.ErrHave, api.OK)
		same(t, i, b.Merge(c), api.OK, api.ErrHave, api.OK)
	}
}

// P11.3: both together have at most 1,024 entries; those that both have count once.
func TestMergeOfManyEntries(t *testing.T) {
	l := full()
	more := first()
	more.Time = 9999
	for _, x := range []struct {
		a, b []api.Entry
		want api.Errno
	}{
		{l, l, api.OK},
		{l[:500], l[500:], api.OK},
		{l[:900], l[100:], api.OK},
		{l, []api.Entry{more}, api.ErrFull},
		{[]api.Entry{more}, l, api.ErrFull},
		{l[1:], []api.Entry{more}, api.OK},
		{l[1:], []api.Entry{more, l[0]}, api.ErrFull},
		{l[:1000], append([]api.Entry{more}, l[1000:]...), api.ErrFull},
	} {
		a, b := filled(t, pair(), x.a...), filled(t, pair(), x.b...)
		s := shore{pair(), x.a}
		same(t, len(x.a), a.Merge(b), api.OK, x.want, api.OK)
		same(t, len(x.a), s.merge(shore{pair(), x.b}), api.OK, x.want, api.OK)
		equal(t, len(x.a), a.Entries(), api.OK, s.inOrder(), api.OK)
		equal(t, len(x.b), b.Entries(), api.OK, shore{l: x.b}.inOrder(), api.OK)
	}
}

// P11.3: Merge agrees with the definitions.
func TestMergeOfAnyArchives(t *testing.T) {
	r := rand.New(rand.NewSource(3))
	counts := map[api.Errno]int{}
	for range 800 {
		s, z := someShore(r)
		other := shore{series: s.series}
		for range r.Intn(8) {
			other.add(z.entry(r, s))
		}
		for _, e := range s.l {
			if r.Intn(2) == 0 {
				other.add(e)
			}
		}
		a, b := filled(t, s.series, s.l...), filled(t, s.series, other.l...)
		want := s.merge(other)
		counts[want]++
		same(t, s, a.Merge(b), api.OK, want, api.OK)
		s.holds(t, r, a, 2)
		other.holds(t, r, b, 2)
	}
	if counts[api.OK] < 200 || counts[api.ErrHave] < 100 {
		t.Error(counts)
	}
}

// P11.9: archives to which the same entries were added, in whatever order,
// however often, and from whatever parts, are equal in all results.
func TestAnyOrder(t *testing.T) {
	r := rand.New(rand.NewSource(4))
	for range 300 {
		s, _ := someShore(r)
		a := made(t, s.series)
		for range 3 {
			for _, i := range r.Perm(len(s.l)) {
				same(t, s, a.Add(s.l[i]), api.OK, api.OK, api.OK)
			}
		}
		b := made(t, s.series)
		for range 4 {
			part := made(t, s.series)
			for _, i := range r.Perm(len(s.l))[:r.Intn(len(s.l)+1)] {
				part.Add(s.l[i])
			}
			same(t, s, b.Merge(part), api.OK, api.OK, api.OK)
		}
		same(t, s, b.Merge(a), api.OK, api.OK, api.OK)
		for range 4 {
			q := s.query(r)
			s.answers(t, a, q)
			s.answers(t, b, q)
		}
		equal(t, s, a.Entries(), api.OK, b.Entries(), api.OK)
	}
}
