package buffer_test

import (
	"math/rand"
	"slices"
	"testing"

	"isobath/api"
	"isobath/buffer"
)

// link is a buffer and an inbox with a link between them that loses data, and
// what became of the records that were put.
type link struct {
	b       *buffer.Buffer
	x       *buffer.Inbox
	now     int64
	put     []api.Record
	dropped []int64
	late    [][]api.Span
}

// read puts a new record.
func (l *link) read(t *testing.T, r *rand.Rand, k kind) {
	t.Helper()
	record := k.record(r)
	record.ID = int64(len(l.put))
	dropped, e := l.b.Put(record)
	if e == api.ErrLimit {
		return
	}
	if e != api.OK {
		t.Fatal(record, e)
	}
	l.put = append(l.put, record)
	l.dropped = append(l.dropped, dropped...)
}

// send sends a burst of which some records are lost, and some arrive twice.
func (l *link) send(t *testing.T, r *rand.Rand, bytes, wait int64, losses bool) {
	t.Helper()
	l.now += r.Int63n(3)
	sent, e := l.b.Burst(bytes, l.now, wait)
	if e != api.OK {
		t.Fatal(e)
	}
	for _, id := range sent {
		if losses && r.Intn(3) == 0 {
			continue
		}
		for range 1 + r.Intn(2) {
			if _, e := l.x.Take(l.put[id]); e != api.OK {
				t.Fatal(id, e)
			}
		}
	}
}

// reply brings acknowledgements back: the last one, none, or one from before.
func (l *link) reply(t *testing.T, r *rand.Rand) {
	t.Helper()
	l.late = append(l.late, l.x.Acks())
	if r.Intn(3) == 0 {
		return
	}
	if _, e := l.b.Ack(l.late[r.Intn(len(l.late))]); e != api.OK {
		t.Fatal(e)
	}
}

// check tells that each record that was put is in the buffer or in the inbox, or
// was dropped, and that the inbox has no other one, and none twice.
func (l *link) check(t *testing.T) {
	t.Helper()
	waiting, arrived := heldIDs(l.b), ids(l.x.Records())
	for _, r := range l.put {
		if !slices.Contains(waiting, r.ID) && !slices.Contains(arrived, r.ID) && !slices.Contains(l.dropped, r.ID) {
			t.Fatal(r, "is lost")
		}
		if slices.Contains(waiting, r.ID) && slices.Contains(l.dropped, r.ID) {
			t.Fatal(r, "was not dropped")
		}
	}
	for i, r := range l.x.Records() {
		if r.ID >= int64(len(l.put)) || r != l.put[r.ID] || slices.Contains(arrived[:i], r.ID) {
			t.Fatal(r, "arrived")
		}
	}
}

// P8.10 and P8.11: with a link that loses records and acknowledgements, and brings
// some of them twice or late, no record is lost without a word; when it loses
// nothing any more, the buffer becomes empty, and all records that were not
// dropped have arrived.
func TestLink(t *testing.T) {
	r := rand.New(rand.NewSource(9))
	for n := range 300 {
		k := kinds()[n%len(kinds())]
		l := &link{b: made(t, min(k.size*(1+r.Int63n(20)), api.MaxBytes)), x: buffer.NewInbox()}
		for len(l.put) < 200 {
			l.read(t, r, k)
			if r.Intn(4) == 0 {
				l.send(t, r, r.Int63n(min(6*k.size, api.MaxBytes)), r.Int63n(4), true)
				l.reply(t, r)
			}
			if len(l.put)%20 == 0 {
				l.check(t)
			}
		}
		l.send(t, r, api.MaxBytes, 0, false)
		if removed, e := l.b.Ack(l.x.Acks()); removed < 0 || e != api.OK {
			t.Fatal(removed, e)
		}
		equalState(t, k, l.b, nil)
		l.check(t)
	}
}
