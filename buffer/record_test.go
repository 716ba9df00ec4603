package buffer_test

import (
	"math"
	"math/rand"
	"testing"

	"isobath/api"
	"isobath/buffer"
)

// badRecords returns records that are not valid.
func badRecords() []api.Record {
	bad := []api.Record{
		{}, record(-1, 0, 0, 1, 1), record(most+1, 0, 0, 1, 1), record(0, -1, 0, 1, 1), record(0, 10, 0, 1, 1),
		record(0, 0, -1, 1, 1), record(0, 0, most+1, 1, 1), record(0, 0, 0, 0, 0), record(0, 0, 0, -1, -1),
		record(0, 0, 0, 1<<24+1, 1), record(0, 0, 0, 1<<24+1, 1<<24+1), record(0, 0, 0, 5, 6), record(0, 0, 0, 5, 0),
		record(0, 0, 0, 5, -1), record(0, 0, 0, 0, 1), record(0, math.MinInt, 0, 1, 1), record(0, math.MaxInt, 0, 1, 1),
	}
	for _, x := range wildNumbers() {
		bad = append(bad, record(x, 0, 0, 1, 1), record(0, 0, x, 1, 1), record(0, 0, 0, x, 1), record(0, 0, 0, 9, x), record(0, 0, 0, x, x))
	}
	return bad
}

// goodRecords returns valid records at the limits.
func goodRecords() []api.Record {
	return []api.Record{
		record(0, 0, 0, 1, 1), record(most, 0, 0, 1, 1), record(0, 9, 0, 1, 1), record(0, 0, most, 1, 1),
		record(0, 0, 0, 1<<24, 1<<24), record(0, 0, 0, 1<<24, 1), record(most, 9, most, 1<<24, 1<<24), first(), second(), third(),
	}
}

// P8.1: a record is valid just within its limits, and ErrArg is the only error.
func TestCheck(t *testing.T) {
	for _, r := range goodRecords() {
		if e := buffer.Check(r); e != api.OK || !validRecord(r) {
			t.Error(r, e)
		}
	}
	for _, r := range badRecords() {
		if e := buffer.Check(r); e != api.ErrArg || validRecord(r) {
			t.Error(r, e)
		}
	}
}

// P8.1: the chapter's examples.
func TestExamplesOfLess(t *testing.T) {
	for _, x := range []struct {
		a, b api.Record
		want bool
	}{
		{second(), first(), true}, {first(), third(), true}, {third(), first(), false}, {first(), second(), false}, {first(), first(), false},
	} {
		l, e := buffer.Less(x.a, x.b)
		same(t, x, l, e, x.want, api.OK)
	}
}

// P8.1: the class decides, then when a record was made, and then its ID; sizes
// do not matter.
func TestLess(t *testing.T) {
	var l []api.Record
	for _, id := range []int64{0, 1, most} {
		for _, class := range []int{0, 1, 9} {
			for _, made := range []int64{0, 1, most} {
				l = append(l, record(id, class, made, 1, 1), record(id, class, made, 1<<24, 7))
			}
		}
	}
	for _, a := range l {
		for _, b := range l {
			less, e := buffer.Less(a, b)
			same(t, []api.Record{a, b}, less, e, lesser(a, b), api.OK)
		}
	}
}

// P8.1: Less needs two valid records.
func TestErrorsOfLess(t *testing.T) {
	for _, bad := range badRecords() {
		l, e := buffer.Less(bad, first())
		same(t, bad, l, e, false, api.ErrArg)
		l, e = buffer.Less(record(most, 0, 0, 1, 1), bad)
		same(t, bad, l, e, false, api.ErrArg)
		l, e = buffer.Less(bad, bad)
		same(t, bad, l, e, false, api.ErrArg)
	}
}

// P8.8: of two records with different IDs just one is less important, and what
// is less important than a lesser one is less important.
func TestOrder(t *testing.T) {
	r := rand.New(rand.NewSource(1))
	less := func(a, b api.Record) bool {
		l, e := buffer.Less(a, b)
		return l && e == api.OK
	}
	for n := range 30000 {
		k := kinds()[n%len(kinds())]
		a, b, c := k.record(r), k.record(r), k.record(r)
		if a.ID != b.ID && less(a, b) == less(b, a) {
			t.Fatal(a, b)
		}
		if less(a, a) || less(a, b) && less(b, c) && !less(a, c) {
			t.Fatal(a, b, c)
		}
	}
}
