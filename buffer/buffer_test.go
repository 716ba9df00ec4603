package buffer_test

import (
	"math/rand"
	"slices"
	"testing"

	"isobath/api"
	"isobath/buffer"
)

// P8.2: a buffer has from 1 to 2^24 bytes, and is empty at first.
func TestNew(t *testing.T) {
	for _, capacity := range []int64{1, 2, 100, 1<<24 - 1, 1 << 24} {
		equalState(t, capacity, made(t, capacity), nil)
	}
	for _, capacity := range append(wildNumbers(), 0, -1, -1<<24, 1<<24+1) {
		if b, e := buffer.New(capacity); b != nil || e != api.ErrRange {
			t.Error(capacity, b, e)
		}
	}
}

// P8.2 to P8.4: the chapter's examples, one after another.
func TestExamplesOfBuffers(t *testing.T) {
	b := filled(t, 100, first())
	equalState(t, "Put 1", b, []api.Held{held(first(), false, notSent)})
	dropped, e := b.Put(second())
	equal(t, "Put 2", dropped, e, nil, api.OK)
	equalState(t, "Put 2", b, []api.Held{held(first(), false, notSent), held(second(), true, notSent)})
	dropped, e = b.Put(third())
	equal(t, "Put 3", dropped, e, []int64{2}, api.OK)
	equalState(t, "Put 3", b, []api.Held{held(third(), true, notSent), held(first(), true, notSent)})
	for _, x := range []struct{ at, sent, third, first int64 }{{40, 3, 40, notSent}, {45, 1, 40, 45}, {50, 3, 50, 45}} {
		sent, e := b.Burst(60, x.at, 10)
		equal(t, x, sent, e, []int64{x.sent}, api.OK)
		equalState(t, x, b, []api.Held{held(third(), true, x.third), held(first(), true, x.first)})
	}
	n, e := b.Ack([]api.Span{span(1, 2)})
	same(t, "Ack", n, e, 1, api.OK)
	equalState(t, "Ack", b, []api.Held{held(third(), true, 50)})
}

// P8.2: the new record may be the one that is dropped, after all others are
// compressed.
func TestPutDropsTheNewOne(t *testing.T) {
	b := filled(t, 100, record(1, 5, 0, 60, 50), record(2, 5, 0, 40, 40))
	dropped, e := b.Put(record(3, 4, 9, 20, 20))
	equal(t, "new", dropped, e, []int64{3}, api.OK)
	equalState(t, "new", b, []api.Held{held(record(1, 5, 0, 60, 50), true, notSent), held(record(2, 5, 0, 40, 40), false, notSent)})
}

// P8.2: the least important record is compressed first, and no more than is
// needed.
func TestPutCompressesTheLeastImportant(t *testing.T) {
	l := []api.Record{record(1, 9, 0, 30, 10), record(2, 5, 1, 30, 10), record(3, 5, 0, 30, 10), record(4, 5, 0, 30, 10)}
	for i, small := range [][]bool{{false, false, false, false}, {false, false, false, true}, {false, false, true, true}, {false, true, true, true}, {true, true, true, true}} {
		b := filled(t, 120-20*int64(i), l...)
		var want []api.Held
		for k, r := range l {
			want = append(want, held(r, small[k], notSent))
		}
		equalState(t, i, b, want)
	}
	// A record that does not become smaller is not compressed.
	b := filled(t, 60, plain(2, 20), record(1, 1, 0, 30, 20), plain(3, 20))
	equalState(t, "plain", b, []api.Held{held(record(1, 1, 0, 30, 20), true, notSent), held(plain(2, 20), false, notSent), held(plain(3, 20), false, notSent)})
}

// P8.2: several records may be dropped for one, from the least important one on.
func TestPutDropsSeveral(t *testing.T) {
	b := filled(t, 100, plains(0, 9, 10)...)
	dropped, e := b.Put(record(20, 1, 0, 35, 35))
	equal(t, "several", dropped, e, []int64{9, 8, 7, 6}, api.OK)
	dropped, e = b.Put(record(21, 1, 0, 100, 100))
	equal(t, "all", dropped, e, []int64{5, 4, 3, 2, 1, 0, 21}, api.OK)
	equalState(t, "all", b, []api.Held{held(record(20, 1, 0, 35, 35), false, notSent)})
}

// P8.2: of more than 256 records one is dropped, even if others could be
// compressed; only then records are compressed, if it is still needed.
func TestPutOfTooMany(t *testing.T) {
	var l []api.Record
	for id := range int64(256) {
		l = append(l, record(id, 0, 0, 4, 2))
	}
	b := filled(t, 4*256, l...)
	dropped, e := b.Put(record(256, 0, 0, 4, 2))
	equal(t, "the new one", dropped, e, []int64{256}, api.OK)
	dropped, e = b.Put(record(300, 1, 0, 4, 2))
	equal(t, "an old one", dropped, e, []int64{255}, api.OK)
	dropped, e = b.Put(record(301, 1, 0, 7, 2))
	equal(t, "one and bytes", dropped, e, []int64{254}, api.OK)
	var want []api.Held
	want = append(want, held(record(300, 1, 0, 4, 2), false, notSent), held(record(301, 1, 0, 7, 2), false, notSent))
	for _, r := range l[:254] {
		want = append(want, held(r, r.ID >= 252, notSent))
	}
	equalState(t, "all", b, want)
	// Also if there are bytes for all of them.
	b = filled(t, 1<<24, l...)
	dropped, e = b.Put(record(256, 9, 0, 4, 2))
	equal(t, "with bytes left", dropped, e, []int64{255}, api.OK)
	want = []api.Held{held(record(256, 9, 0, 4, 2), false, notSent)}
	for _, r := range l[:255] {
		want = append(want, held(r, false, notSent))
	}
	equalState(t, "with bytes left", b, want)
}

// P8.2: a record that is not valid, that the buffer holds, or that does not fit
// even compressed, is not put.
func TestErrorsOfPut(t *testing.T) {
	b := filled(t, 100, first(), plain(7, 20))
	want := b.Held()
	for _, r := range badRecords() {
		dropped, e := b.Put(r)
		equal(t, r, dropped, e, nil, api.ErrArg)
	}
	for _, r := range []api.Record{first(), plain(1, 1), record(7, 9, 9, 9, 9), record(7, 0, 0, 101, 101)} {
		dropped, e := b.Put(r)
		equal(t, r, dropped, e, nil, api.ErrHave)
	}
	for _, r := range []api.Record{plain(2, 101), record(2, 9, 0, 1<<24, 101)} {
		dropped, e := b.Put(r)
		equal(t, r, dropped, e, nil, api.ErrLimit)
	}
	equalState(t, "errors", b, want)
	dropped, e := b.Put(record(2, 9, 0, 1<<24, 100))
	equal(t, "just small enough", dropped, e, []int64{7, 1}, api.OK)
}

// P8.2: a record that was dropped, or removed, can be put again, as a new one.
func TestPutAgain(t *testing.T) {
	b := filled(t, 10, plain(1, 5), record(2, 0, 0, 8, 5))
	if sent, e := b.Burst(10, 3, 0); len(sent) != 2 || e != api.OK {
		t.Fatal(sent, e)
	}
	n, e := b.Ack([]api.Span{span(2, 2)})
	same(t, "Ack", n, e, 1, api.OK)
	dropped, e := b.Put(record(2, 1, 0, 5, 5))
	equal(t, "removed", dropped, e, nil, api.OK)
	equalState(t, "removed", b, []api.Held{held(record(2, 1, 0, 5, 5), false, notSent), held(plain(1, 5), false, 3)})
	dropped, e = b.Put(plain(3, 5))
	equal(t, "full", dropped, e, []int64{3}, api.OK)
	dropped, e = b.Put(record(3, 5, 0, 5, 5))
	equal(t, "dropped", dropped, e, []int64{1}, api.OK)
	equalState(t, "dropped", b, []api.Held{held(record(3, 5, 0, 5, 5), false, notSent), held(record(2, 1, 0, 5, 5), false, notSent)})
}

// P8.2: a record stays sent when it is compressed.
func TestPutKeepsWhatWasSent(t *testing.T) {
	b := filled(t, 10, record(1, 0, 0, 8, 3))
	sent, e := b.Burst(8, 5, 0)
	equal(t, "Burst", sent, e, []int64{1}, api.OK)
	dropped, e := b.Put(plain(2, 4))
	equal(t, "Put", dropped, e, nil, api.OK)
	equalState(t, "Put", b, []api.Held{held(record(1, 0, 0, 8, 3), true, 5), held(plain(2, 4), false, notSent)})
}

// P8.2 to P8.4: whatever is done with a buffer, it does what the definitions say.
func TestBufferByDefinition(t *testing.T) {
	r := rand.New(rand.NewSource(2))
	for n := range 300 {
		k := kinds()[n%len(kinds())]
		m := &model{capacity: 1 + r.Int63n(min(20*k.size, api.MaxBytes))}
		b := made(t, m.capacity)
		for range 200 {
			stepBoth(t, r, k, b, m)
			m.sort()
			equalState(t, k, b, m.all)
		}
	}
}

// P8.2 to P8.4 and P8.7: the same for buffers that have bytes for about as many
// records as they can have.
func TestCrowdedBufferByDefinition(t *testing.T) {
	r := rand.New(rand.NewSource(18))
	crowded := 0
	for n := range 20 {
		k := kind{5000, 50, 4}
		m := &model{capacity: int64(300 + 50*(n%8))}
		b := made(t, m.capacity)
		for range 500 {
			x := k.record(r)
			if m.has(x.ID) {
				continue
			}
			before := append(b.Held(), held(x, false, notSent))
			dropped, e := b.Put(x)
			equal(t, x, dropped, e, m.put(x), api.OK)
			checkDrops(t, b, before, dropped)
			m.sort()
			equalState(t, k, b, m.all)
			if len(before) > 256 {
				crowded++
			}
		}
	}
	if crowded < 1000 {
		t.Error(crowded)
	}
}

// stepBoth does something with a buffer and with its model, and compares what
// they return.
func stepBoth(t *testing.T, r *rand.Rand, k kind, b *buffer.Buffer, m *model) {
	t.Helper()
	switch r.Intn(8) {
	case 0:
		s := k.set(r)
		n, e := b.Ack(s)
		same(t, s, n, e, m.ack(s), api.OK)
	case 1, 2:
		bytes, at, wait := r.Int63n(min(4*k.size, api.MaxBytes)), min(m.time+r.Int63n(4), most), r.Int63n(6)
		sent, e := b.Burst(bytes, at, wait)
		equal(t, []int64{bytes, at, wait}, sent, e, m.burst(bytes, at, wait), api.OK)
	default:
		x := k.record(r)
		dropped, e := b.Put(x)
		switch {
		case m.has(x.ID):
			equal(t, x, dropped, e, nil, api.ErrHave)
		case x.Packed > m.capacity:
			equal(t, x, dropped, e, nil, api.ErrLimit)
		default:
			equal(t, x, dropped, e, m.put(x), api.OK)
		}
	}
}

// P8.7: when records are dropped, those that stay are more important, and none
// of these could still be compressed, unless there were too many; a buffer is
// never too full.
func TestNoLesserOneStays(t *testing.T) {
	r := rand.New(rand.NewSource(3))
	drops := 0
	for n := range 200 {
		k := kinds()[n%len(kinds())]
		capacity := 1 + r.Int63n(min(30*k.size, api.MaxBytes))
		b := made(t, capacity)
		for range 400 {
			x := k.record(r)
			before := append(b.Held(), held(x, false, notSent))
			dropped, e := b.Put(x)
			if e != api.OK {
				continue
			}
			drops += len(dropped)
			checkDrops(t, b, before, dropped)
			if b.Used() > capacity || len(b.Held()) > 256 {
				t.Fatal(b.Used(), len(b.Held()))
			}
		}
	}
	if drops < 1000 {
		t.Error(drops)
	}
}

// checkDrops compares what was in a buffer, with the new record, with what was
// dropped and what stays.
func checkDrops(t *testing.T, b *buffer.Buffer, before []api.Held, dropped []int64) {
	t.Helper()
	after := b.Held()
	if len(before) != len(after)+len(dropped) {
		t.Fatal(before, after, dropped)
	}
	for _, h := range before {
		if !slices.Contains(dropped, h.Record.ID) {
			continue
		}
		for _, stays := range after {
			if !lesser(h.Record, stays.Record) {
				t.Fatal(h, stays)
			}
			if len(before) <= 256 && !stays.Small && stays.Record.Packed < stays.Record.Size {
				t.Fatal(before, after, dropped)
			}
		}
	}
}

// P8.4: Held is in the order from the most important to the least important
// record, in whatever order they were put.
func TestHeld(t *testing.T) {
	r := rand.New(rand.NewSource(4))
	for n := range 100 {
		k := kinds()[n%len(kinds())]
		b := made(t, api.MaxBytes)
		for range 60 {
			b.Put(k.record(r))
		}
		l := b.Held()
		for i := range l[1:] {
			if !lesser(l[i+1].Record, l[i].Record) {
				t.Fatal(l)
			}
		}
	}
}

// P8.4: a copy does what the original would do, and neither changes the other.
func TestCopy(t *testing.T) {
	r := rand.New(rand.NewSource(5))
	for n := range 200 {
		k := kinds()[n%len(kinds())]
		m := &model{capacity: 1 + r.Int63n(min(20*k.size, api.MaxBytes))}
		b := made(t, m.capacity)
		for range 40 {
			stepBoth(t, r, k, b, m)
		}
		c, d := b.Copy(), &model{m.capacity, m.time, slices.Clone(m.all)}
		for range 60 {
			if r.Intn(2) == 0 {
				stepBoth(t, r, k, b, m)
			} else {
				stepBoth(t, r, k, c, d)
			}
			m.sort()
			d.sort()
			equalState(t, k, b, m.all)
			equalState(t, k, c, d.all)
		}
	}
}

// P8.4: the time belongs to the state that is copied.
func TestCopyOfTime(t *testing.T) {
	b := filled(t, 10, plain(1, 1))
	b.Burst(0, 7, 0)
	c := b.Copy()
	_, e := c.Burst(0, 6, 0)
	same(t, "copy", 0, e, 0, api.ErrRange)
	c.Burst(1, 9, 0)
	sent, e := b.Burst(1, 8, 0)
	equal(t, "original", sent, e, []int64{1}, api.OK)
}
