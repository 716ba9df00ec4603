package buffer_test

import (
	"math/rand"
	"slices"
	"testing"

	"isobath/api"
	"isobath/buffer"
)

// noBuffers returns buffers that are not valid: a struct that was copied is not
// what New returned.
func noBuffers(t *testing.T) []*buffer.Buffer {
	t.Helper()
	b := filled(t, 100, first())
	copied, changed := *b, *b.Copy()
	emptied := b.Copy()
	*emptied = buffer.Buffer{}
	other := b.Copy()
	*other = *b
	return []*buffer.Buffer{nil, {}, new(buffer.Buffer), &copied, &changed, emptied, other}
}

// R4, for P8.2 to P8.4: a buffer that is not valid has nothing, and does nothing.
func TestNoBuffer(t *testing.T) {
	for i, b := range noBuffers(t) {
		for _, r := range []api.Record{second(), first(), {}} {
			dropped, e := b.Put(r)
			equal(t, i, dropped, e, nil, api.ErrNil)
		}
		for _, at := range []int64{5, -1} {
			sent, e := b.Burst(100, at, 0)
			equal(t, i, sent, e, nil, api.ErrNil)
		}
		for _, s := range [][]api.Span{nil, {span(1, 1)}, {span(1, 0)}, make([]api.Span, 257)} {
			n, e := b.Ack(s)
			same(t, i, n, e, 0, api.ErrNil)
		}
		if len(b.Held()) != 0 || b.Used() != 0 || b.Copy() != nil {
			t.Error(i, b.Held(), b.Used(), b.Copy())
		}
	}
}

// R4: what is done with a struct that was copied does not change the buffer.
func TestCopiedStruct(t *testing.T) {
	b, x := filled(t, 100, first()), inbox(t, first())
	c, y := *b, *x
	c.Put(second())
	c.Ack([]api.Span{span(0, 9)})
	c.Burst(100, 9, 0)
	y.Take(second())
	equalState(t, "buffer", b, []api.Held{held(first(), false, notSent)})
	equal(t, "inbox", x.Records(), api.OK, []api.Record{first()}, api.OK)
}

// R4, for P8.5: an inbox that is not valid has nothing, and takes nothing.
func TestNoInbox(t *testing.T) {
	x := inbox(t, first())
	copied, other := *x, x.Copy()
	*other = *x
	for i, x := range []*buffer.Inbox{nil, {}, new(buffer.Inbox), &copied, other} {
		for _, r := range []api.Record{second(), first(), {}} {
			took, e := x.Take(r)
			same(t, i, took, e, false, api.ErrNil)
		}
		if len(x.Acks()) != 0 || len(x.Records()) != 0 || x.Copy() != nil {
			t.Error(i, x.Acks(), x.Records(), x.Copy())
		}
	}
}

// R5: no argument is changed, also where it is a part of a longer list.
func TestArgumentsAreKept(t *testing.T) {
	r := rand.New(rand.NewSource(13))
	for range 300 {
		set := []api.Span{span(0, 3), span(5, 5), span(90, 99), span(1, 1)}
		all := parcels(r, 24)
		sameSet, sameParcels := slices.Clone(set), slices.Clone(all)
		b := filled(t, 1000, plains(1, 10, 20)...)
		b.Ack(set[:2])
		b.Ack(set[:3])
		b.Ack(set)
		for n := range all {
			buffer.Best(all[:n], someBytes(r, all))
		}
		if !slices.Equal(set, sameSet) || !slices.Equal(all, sameParcels) {
			t.Fatal(set, all)
		}
	}
}

// spoil changes a result, also behind its end.
func spoil[T any](l []T) {
	clear(l)
	clear(l[:cap(l)])
}

// R5, for P8.2 to P8.4: results share no memory with a buffer, a copy of it, or
// other results.
func TestResultsOfBuffersAreNew(t *testing.T) {
	r := rand.New(rand.NewSource(14))
	for n := range 200 {
		k := kinds()[n%len(kinds())]
		b := made(t, min(20*k.size, api.MaxBytes))
		for range 60 {
			dropped, _ := b.Put(k.record(r))
			before, c := b.Held(), b.Copy()
			spoil(dropped)
			equalState(t, k, b, before)
			spoil(c.Held())
			equalState(t, k, c, before)
			equalState(t, k, b, before)
		}
		b.Ack(k.set(r))
		sent, _ := b.Burst(api.MaxBytes, 3, 0)
		want := heldIDs(b)
		before := b.Held()
		equal(t, k, sent, api.OK, want, api.OK)
		again, _ := b.Burst(api.MaxBytes, 3, 0)
		spoil(sent)
		equal(t, k, again, api.OK, want, api.OK)
		equalState(t, k, b, before)
	}
}

// R5, for P8.5 and P8.6: results share no memory with an inbox, a copy of it, or
// other results.
func TestResultsOfInboxesAreNew(t *testing.T) {
	x := inbox(t, first(), second(), third(), plain(9, 9))
	records, acks := []api.Record{first(), second(), third(), plain(9, 9)}, []api.Span{span(1, 3), span(9, 9)}
	for _, y := range []*buffer.Inbox{x, x.Copy(), x} {
		l, s := y.Records(), y.Acks()
		spoil(y.Records())
		spoil(y.Acks())
		equal(t, "Records", l, api.OK, records, api.OK)
		equal(t, "Acks", s, api.OK, acks, api.OK)
		spoil(l)
		spoil(s)
		equal(t, "Records", x.Records(), api.OK, records, api.OK)
		equal(t, "Acks", x.Acks(), api.OK, acks, api.OK)
	}
	l := []api.Parcel{parcel(60, 100), parcel(50, 70), parcel(50, 60)}
	c, _, _ := buffer.Best(l, 100)
	d, _, _ := buffer.Best(l, 100)
	spoil(c)
	equal(t, "Best", d, api.OK, []int{1, 2}, api.OK)
}

// R5 and R10: nothing is kept of lists that are changed after a call, and equal
// calls return equal results.
func TestNothingIsKept(t *testing.T) {
	r := rand.New(rand.NewSource(15))
	l, s := make([]api.Parcel, 8), make([]api.Span, 1)
	b := filled(t, 1000, plains(0, 99, 1)...)
	for id := range int64(100) {
		copy(l, parcels(r, 8))
		bytes := someBytes(r, l)
		want := bestOf(l, bytes)
		worth, _ := sums(l, want)
		for range 2 {
			best(t, l, bytes, want, worth)
		}
		s[0] = span(id, id)
		n, e := b.Ack(s)
		same(t, id, n, e, 1, api.OK)
		s[0] = span(0, most)
		if held := b.Held(); int64(len(held)) != 99-id {
			t.Fatal(held)
		}
	}
}

// R10: the order in which an inbox took its records, or a buffer records of
// which none is dropped or compressed, cannot be seen in it.
func TestAnyOrder(t *testing.T) {
	r := rand.New(rand.NewSource(16))
	l := plains(0, 60, 1)
	for i := range l {
		l[i].ID, l[i].Class = 5*l[i].ID, r.Intn(10)
	}
	b, x := filled(t, 100, l...), inbox(t, l...)
	for range 50 {
		r.Shuffle(len(l), func(i, k int) { l[i], l[k] = l[k], l[i] })
		c, y := filled(t, 100, l...), inbox(t, l...)
		equalState(t, l, c, b.Held())
		equal(t, l, y.Records(), api.OK, x.Records(), api.OK)
		equal(t, l, y.Acks(), api.OK, x.Acks(), api.OK)
	}
}

// wild returns a number that may be anything.
func wild(r *rand.Rand) int64 {
	switch r.Intn(6) {
	case 0:
		return int64(r.Uint64())
	case 1:
		l := append(wildNumbers(), 1<<30, 1<<30+1, 1<<24, 1<<24+1, 1<<20, 1<<20+1, -1)
		return l[r.Intn(len(l))]
	}
	return r.Int63n(30)
}

// wildArguments returns arguments that may have any numbers.
func wildArguments(r *rand.Rand, b *buffer.Buffer, x *buffer.Inbox) arguments {
	k := kinds()[r.Intn(len(kinds()))]
	a := arguments{b, x, k.record(r), k.record(r), wild(r), wild(r), wild(r), k.set(r), parcels(r, r.Intn(5))}
	if r.Intn(2) == 0 {
		numbers := []*int64{&a.r.ID, &a.r.Made, &a.r.Size, &a.r.Packed, &a.other.ID, &a.other.Size}
		if len(a.s) > 0 {
			numbers = append(numbers, &a.s[0].Lo, &a.s[len(a.s)-1].Hi)
		}
		if len(a.l) > 0 {
			numbers = append(numbers, &a.l[0].Size, &a.l[0].Worth)
		}
		*numbers[r.Intn(len(numbers))] = wild(r)
	}
	if r.Intn(9) == 0 {
		a.r.Class = int(wild(r))
	}
	return a
}

// P1 and R2: every function ends for any numbers; with an error all other
// results are zero values, and nothing has changed.
func TestAnyNumbers(t *testing.T) {
	r := rand.New(rand.NewSource(17))
	b, x := made(t, 100), buffer.NewInbox()
	for n := range 30000 {
		if n%100 == 0 {
			b, x = made(t, 1+r.Int63n(500)), buffer.NewInbox()
		}
		a := wildArguments(r, b, x)
		before, records := b.Held(), x.Records()
		f := calls()[r.Intn(len(calls()))]
		zero, e := f.do(a)
		if e == api.OK {
			continue
		}
		if !zero || !slices.Contains([]api.Errno{api.ErrArg, api.ErrRange, api.ErrMany, api.ErrFull, api.ErrHave, api.ErrLimit}, e) {
			t.Fatal(f.name, a, zero, e)
		}
		equalState(t, f.name, b, before)
		equal(t, f.name, x.Records(), api.OK, records, api.OK)
	}
}
