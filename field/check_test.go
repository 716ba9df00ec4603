package field_test

import (
	"math"
	"math/rand"
	"slices"
	"testing"

	"isobath/api"
	"isobath/field"
)

// P10.1: the limits of a field.
func TestCheck(t *testing.T) {
	for _, x := range []struct {
		name   string
		change func(f *api.Field)
		want   api.Errno
	}{
		{"example", func(f *api.Field) {}, api.OK},
		{"narrowest", func(f *api.Field) { f.Wide = 1 }, api.OK},
		{"no column", func(f *api.Field) { f.Wide = 0 }, api.ErrArg},
		{"widest", func(f *api.Field) { f.Wide = 8 }, api.OK},
		{"too wide", func(f *api.Field) { f.Wide = 9 }, api.ErrArg},
		{"no row", func(f *api.Field) { f.High = 0 }, api.ErrArg},
		{"highest", func(f *api.Field) { f.High = 8 }, api.OK},
		{"too high", func(f *api.Field) { f.High = 9 }, api.ErrArg},
		{"sides below 0", func(f *api.Field) { f.Wide, f.High = -2, -2 }, api.ErrArg},
		{"one moment", func(f *api.Field) { f.Last = 0 }, api.OK},
		{"no moment", func(f *api.Field) { f.Last = -1 }, api.ErrArg},
		{"most moments", func(f *api.Field) { f.Last = 7 }, api.OK},
		{"too many moments", func(f *api.Field) { f.Last = 8 }, api.ErrArg},
		{"one value", func(f *api.Field) { f.Range = span(7, 7) }, api.OK},
		{"no value", func(f *api.Field) { f.Range = span(8, 7) }, api.ErrArg},
		{"all values", func(f *api.Field) { f.Range = span(-end, end) }, api.OK},
		{"too low", func(f *api.Field) { f.Range = span(-end-1, end) }, api.ErrArg},
		{"too great", func(f *api.Field) { f.Range = span(-end, end+1) }, api.ErrArg},
		{"only too great", func(f *api.Field) { f.Range = span(end+1, end+1) }, api.ErrArg},
		{"only too low", func(f *api.Field) { f.Range = span(-end-1, -end-1) }, api.ErrArg},
		{"flat", func(f *api.Field) { f.Space = 0 }, api.OK},
		{"space below 0", func(f *api.Field) { f.Space = -1 }, api.ErrArg},
		{"steepest", func(f *api.Field) { f.Space = slope }, api.OK},
		{"too steep", func(f *api.Field) { f.Space = slope + 1 }, api.ErrArg},
		{"still", func(f *api.Field) { f.Change = 0 }, api.OK},
		{"change below 0", func(f *api.Field) { f.Change = -1 }, api.ErrArg},
		{"fastest", func(f *api.Field) { f.Change = slope }, api.OK},
		{"too fast", func(f *api.Field) { f.Change = slope + 1 }, api.ErrArg},
	} {
		f := example().f
		x.change(&f)
		if e := field.Check(f); e != x.want {
			t.Error(x.name, e)
		}
		if e := field.CheckSeen(f, nil); e != x.want {
			t.Error(x.name, "of CheckSeen", e)
		}
	}
	if e := field.Check(greatest().f); e != api.OK {
		t.Error("greatest", e)
	}
	if e := field.Check(api.Field{}); e != api.ErrArg {
		t.Error("zero", e)
	}
}

// P10.1: observations, at and beyond the limits.
func TestCheckSeen(t *testing.T) {
	s := example()
	for _, x := range []struct {
		o    api.Seen
		want api.Errno
	}{
		{seen(0, 0, 0, 0), api.OK},
		{seen(1, 2, -most, most), api.OK},
		{seen(2, 0, 0, 0), api.ErrArg},
		{seen(-1, 0, 0, 0), api.ErrArg},
		{seen(0, 3, 0, 0), api.ErrArg},
		{seen(0, -1, 0, 0), api.ErrArg},
		{seen(0, 0, 1, 0), api.ErrArg},
		{seen(0, 0, -most-1, 0), api.ErrArg},
		{seen(0, 0, 0, most+1), api.ErrArg},
		{seen(math.MaxInt, math.MinInt, 0, 0), api.ErrArg},
		// Outside of Range: it is valid, but not consistent.
		{seen(0, 0, 200, 300), api.OK},
	} {
		for _, l := range [][]api.Seen{{x.o}, append(slices.Clone(s.l), x.o), append([]api.Seen{x.o}, s.l...)} {
			if e := field.CheckSeen(s.f, l); e != x.want {
				t.Error(l, e)
			}
		}
	}
	full := slices.Repeat(s.l[:1], api.MaxSeen)
	if e := field.CheckSeen(s.f, full); e != api.OK {
		t.Error("as many as possible", e)
	}
	if e := field.CheckSeen(s.f, append(full, s.l[0])); e != api.ErrMany {
		t.Error("one too many", e)
	}
	// The list is too long before its observations are looked at (R1).
	if e := field.CheckSeen(s.f, make([]api.Seen, api.MaxSeen+1)); e != api.ErrMany {
		t.Error("too many that are valid", e)
	}
	if e := field.CheckSeen(s.f, append([]api.Seen{seen(9, 9, 1, 0)}, full...)); e != api.ErrMany {
		t.Error("too many, and one that is not valid", e)
	}
	if e := field.CheckSeen(s.f, nil); e != api.OK {
		t.Error("none", e)
	}
}

// P10.1: the distance of the examples, of the farthest spots, and of those that
// are not in the field.
func TestDistance(t *testing.T) {
	f := example().f
	for _, x := range []struct {
		a, b api.Spot
		want int64
		e    api.Errno
	}{
		{spot(0, 0), spot(1, 2), 25, api.OK},
		{spot(1, 2), spot(0, 0), 25, api.OK},
		{spot(1, 1), spot(1, 1), 0, api.OK},
		{spot(0, 1), spot(1, 1), 5, api.OK},
		{spot(0, 1), spot(0, 2), 10, api.OK},
		{spot(2, 0), spot(0, 0), 0, api.ErrRange},
		{spot(0, 0), spot(2, 0), 0, api.ErrRange},
		{spot(-1, 0), spot(0, 0), 0, api.ErrRange},
		{spot(0, 0), spot(0, 3), 0, api.ErrRange},
		{spot(0, -1), spot(0, 0), 0, api.ErrRange},
		{spot(math.MinInt, math.MaxInt), spot(math.MaxInt, math.MinInt), 0, api.ErrRange},
	} {
		d, e := field.Distance(f, x.a, x.b)
		same(t, x, d, e, x.want, x.e)
	}
	d, e := field.Distance(greatest().f, spot(0, 0), spot(7, 63))
	same(t, "greatest", d, e, 21*slope, api.OK)
	d, e = field.Distance(greatest().f, spot(0, 7), spot(7, 56))
	same(t, "other corners", d, e, 21*slope, api.OK)
	d, e = field.Distance(api.Field{}, spot(0, 0), spot(0, 0))
	same(t, "no field", d, e, 0, api.ErrArg)
}

// P10.1: all distances of random fields, whose cells are numbered row by row.
func TestDistances(t *testing.T) {
	r := rand.New(rand.NewSource(1))
	for range 200 {
		s, _ := someSea(r)
		for range 50 {
			a, b := s.someSpot(r), s.someSpot(r)
			d, e := field.Distance(s.f, a, b)
			same(t, []any{s.f, a, b}, d, e, s.far(a, b), api.OK)
		}
	}
	// In a field of 3 by 2 cells the cell 2 ends the first row, and 3 begins the second.
	f := api.Field{Wide: 3, High: 2, Space: 1}
	for c, want := range []int64{2, 1, 0, 3, 2, 1} {
		d, e := field.Distance(f, spot(0, 2), spot(0, c))
		same(t, c, d, e, want, api.OK)
	}
}
