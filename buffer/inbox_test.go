package buffer_test

import (
	"math/rand"
	"slices"
	"testing"

	"isobath/api"
	"isobath/bound"
	"isobath/buffer"
)

// P8.5: the chapter's examples.
func TestExamplesOfInboxes(t *testing.T) {
	x := inbox(t, first(), third())
	took, e := x.Take(first())
	same(t, "again", took, e, false, api.OK)
	equal(t, "Acks", x.Acks(), api.OK, []api.Span{span(1, 1), span(3, 3)}, api.OK)
	equal(t, "Records", x.Records(), api.OK, []api.Record{first(), third()}, api.OK)
}

// P8.5: an inbox is empty at first.
func TestNewInbox(t *testing.T) {
	x := buffer.NewInbox()
	if len(x.Acks()) != 0 || len(x.Records()) != 0 {
		t.Error(x.Acks(), x.Records())
	}
}

// P8.5: a record with an ID that the inbox has is not taken, whatever its other
// fields are.
func TestTakeAgain(t *testing.T) {
	x := inbox(t, first())
	for _, r := range []api.Record{first(), record(1, 9, 10, 60, 30), record(1, 5, 11, 60, 30), record(1, 5, 10, 61, 30), record(1, 5, 10, 60, 31)} {
		took, e := x.Take(r)
		same(t, r, took, e, false, api.OK)
		equal(t, r, x.Records(), api.OK, []api.Record{first()}, api.OK)
	}
}

// P8.5: records that are not valid are not taken, also if the inbox has their ID.
func TestErrorsOfTake(t *testing.T) {
	x := inbox(t, first(), plain(0, 1))
	for _, r := range badRecords() {
		took, e := x.Take(r)
		same(t, r, took, e, false, api.ErrArg)
	}
	equal(t, "Records", x.Records(), api.OK, []api.Record{plain(0, 1), first()}, api.OK)
	for _, r := range goodRecords() {
		if _, e := x.Take(r); e != api.OK {
			t.Error(r, e)
		}
	}
}

// P8.5: an inbox has at most 256 records; those that it has are told from those
// for which there is no place.
func TestFullInbox(t *testing.T) {
	x := inbox(t, plains(0, 255, 1)...)
	took, e := x.Take(plain(256, 1))
	same(t, "one more", took, e, false, api.ErrFull)
	took, e = x.Take(plain(255, 1))
	same(t, "again", took, e, false, api.OK)
	took, e = x.Take(plain(-1, 1))
	same(t, "not valid", took, e, false, api.ErrArg)
	equal(t, "Records", x.Records(), api.OK, plains(0, 255, 1), api.OK)
	equal(t, "Acks", x.Acks(), api.OK, []api.Span{span(0, 255)}, api.OK)
}

// P8.5: the acknowledgement of 256 IDs of which none is next to another one is
// still a set.
func TestLongAcks(t *testing.T) {
	x := buffer.NewInbox()
	var want []api.Span
	for i := range int64(256) {
		x.Take(plain(most-2*(255-i), 1))
		want = append(want, span(most-2*(255-i), most-2*(255-i)))
	}
	equal(t, "Acks", x.Acks(), bound.CheckSet(x.Acks()), want, api.OK)
}

// P8.5 and P8.13: the acknowledgement is the normal set of just the IDs of all
// records, which come by increasing IDs, in whatever order they were taken.
func TestInboxByDefinition(t *testing.T) {
	r := rand.New(rand.NewSource(7))
	for n := range 300 {
		k := kinds()[n%len(kinds())]
		x := buffer.NewInbox()
		var want []api.Record
		for range 1 + r.Intn(300) {
			takeBoth(t, x, k.record(r), &want)
		}
		equal(t, k, x.Records(), api.OK, want, api.OK)
		equal(t, k, x.Acks(), bound.CheckSet(x.Acks()), setOf(ids(want)), api.OK)
		if c, e := bound.Count(x.Acks()); c != int64(len(want)) || e != api.OK {
			t.Fatal(c, e)
		}
	}
}

// takeBoth takes a record into an inbox and into a list by increasing IDs.
func takeBoth(t *testing.T, x *buffer.Inbox, record api.Record, l *[]api.Record) {
	t.Helper()
	took, e := x.Take(record)
	i := slices.IndexFunc(*l, func(old api.Record) bool { return old.ID >= record.ID })
	if i < 0 {
		i = len(*l)
	}
	switch {
	case i < len(*l) && (*l)[i].ID == record.ID:
		same(t, record, took, e, false, api.OK)
	case len(*l) == 256:
		same(t, record, took, e, false, api.ErrFull)
	default:
		same(t, record, took, e, true, api.OK)
		*l = slices.Insert(*l, i, record)
	}
}

// P8.5: a copy has the same records, and neither changes the other.
func TestCopyOfInbox(t *testing.T) {
	x := inbox(t, first(), second())
	c := x.Copy()
	equal(t, "copy", c.Records(), api.OK, []api.Record{first(), second()}, api.OK)
	took, e := c.Take(third())
	same(t, "copy", took, e, true, api.OK)
	took, e = x.Take(plain(0, 1))
	same(t, "original", took, e, true, api.OK)
	equal(t, "copy", c.Records(), api.OK, []api.Record{first(), second(), third()}, api.OK)
	equal(t, "original", x.Records(), api.OK, []api.Record{plain(0, 1), first(), second()}, api.OK)
	equal(t, "copy", c.Acks(), api.OK, []api.Span{span(1, 3)}, api.OK)
	equal(t, "original", x.Acks(), api.OK, []api.Span{span(0, 2)}, api.OK)
}

// P8.13: to acknowledge what an inbox has removes just these records.
func TestAcknowledged(t *testing.T) {
	r := rand.New(rand.NewSource(8))
	for n := range 300 {
		k := kinds()[n%len(kinds())]
		b, x := made(t, min(30*k.size, api.MaxBytes)), buffer.NewInbox()
		for range r.Intn(300) {
			record := k.record(r)
			if r.Intn(2) == 0 {
				x.Take(record)
			}
			if r.Intn(3) > 0 {
				b.Put(record)
			}
		}
		arrived := ids(x.Records())
		var want []api.Held
		for _, h := range b.Held() {
			if !slices.Contains(arrived, h.Record.ID) {
				want = append(want, h)
			}
		}
		removed := len(b.Held()) - len(want)
		n, e := b.Ack(x.Acks())
		same(t, k, n, e, removed, api.OK)
		equalState(t, k, b, want)
	}
}
