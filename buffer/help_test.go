package buffer_test

import (
	"math"
	"math/rand"
	"slices"
	"testing"

	"isobath/api"
	"isobath/buffer"
)

const (
	most    = api.MaxValue
	notSent = api.NotSent
)

func span(lo, hi int64) api.Span { return api.Span{Lo: lo, Hi: hi} }

// record returns a record.
func record(id int64, class int, made, size, packed int64) api.Record {
	return api.Record{ID: id, Class: class, Made: made, Size: size, Packed: packed}
}

// plain returns a record of the class 0 that was made at 0, and does not become
// smaller: of such records those with a greater ID are less important.
func plain(id, size int64) api.Record { return record(id, 0, 0, size, size) }

// The records of the chapter's examples.
func first() api.Record  { return record(1, 5, 10, 60, 30) }
func second() api.Record { return record(2, 3, 20, 50, 40) }
func third() api.Record  { return record(3, 5, 30, 80, 50) }

// held returns a record in a buffer.
func held(r api.Record, small bool, sent int64) api.Held {
	return api.Held{Record: r, Small: small, Sent: sent}
}

// made returns an empty buffer.
func made(t *testing.T, capacity int64) *buffer.Buffer {
	t.Helper()
	b, e := buffer.New(capacity)
	if b == nil || e != api.OK {
		t.Fatal("New", capacity, e)
	}
	return b
}

// filled returns a buffer with some records, of which none is dropped.
func filled(t *testing.T, capacity int64, l ...api.Record) *buffer.Buffer {
	t.Helper()
	b := made(t, capacity)
	for _, r := range l {
		dropped, e := b.Put(r)
		equal(t, r, dropped, e, nil, api.OK)
	}
	return b
}

// inbox returns an inbox with some records.
func inbox(t *testing.T, l ...api.Record) *buffer.Inbox {
	t.Helper()
	x := buffer.NewInbox()
	for _, r := range l {
		took, e := x.Take(r)
		same(t, r, took, e, true, api.OK)
	}
	return x
}

// plains returns plain records with the IDs from from to to.
func plains(from, to, size int64) []api.Record {
	var l []api.Record
	for id := from; id <= to; id++ {
		l = append(l, plain(id, size))
	}
	return l
}

// ids returns the IDs of records.
func ids(l []api.Record) []int64 {
	var n []int64
	for _, r := range l {
		n = append(n, r.ID)
	}
	return n
}

// heldIDs returns the IDs of the records of a buffer, in the order of Held.
func heldIDs(b *buffer.Buffer) []int64 {
	var n []int64
	for _, h := range b.Held() {
		n = append(n, h.Record.ID)
	}
	return n
}

// equal compares a list that a function returns, and its error, with those that
// are wanted.
func equal[T comparable](t *testing.T, name any, got []T, e api.Errno, want []T, wantErr api.Errno) {
	t.Helper()
	if !slices.Equal(got, want) || e != wantErr {
		t.Fatalf("%v: %v, %v; want %v, %v", name, got, e, want, wantErr)
	}
}

// same compares what a function returns, and its error, with what is wanted.
func same[T comparable](t *testing.T, name any, got T, e api.Errno, want T, wantErr api.Errno) {
	t.Helper()
	if got != want || e != wantErr {
		t.Fatalf("%v: %v, %v; want %v, %v", name, got, e, want, wantErr)
	}
}

// equalState compares the state of a buffer with what is wanted.
func equalState(t *testing.T, name any, b *buffer.Buffer, want []api.Held) {
	t.Helper()
	used := int64(0)
	for _, h := range want {
		used += bytesOf(h)
	}
	if l := b.Held(); !slices.Equal(l, want) || b.Used() != used {
		t.Fatalf("%v: %v, %v; want %v, %v", name, l, b.Used(), want, used)
	}
}

// The chapter's definitions, as they are written.

// validRecord tells whether a record is valid.
func validRecord(r api.Record) bool {
	return r.ID >= 0 && r.ID <= 1<<30 && r.Class >= 0 && r.Class <= 9 && r.Made >= 0 && r.Made <= 1<<30 &&
		r.Size >= 1 && r.Size <= 1<<24 && r.Packed >= 1 && r.Packed <= r.Size
}

// lesser tells whether a record is less important than another one.
func lesser(a, b api.Record) bool {
	return a.Class < b.Class || a.Class == b.Class && a.Made < b.Made ||
		a.Class == b.Class && a.Made == b.Made && a.ID > b.ID
}

// bytesOf returns the bytes of a record in a buffer.
func bytesOf(h api.Held) int64 {
	if h.Small {
		return h.Record.Packed
	}
	return h.Record.Size
}

// model is a buffer whose records are in no order.
type model struct {
	capacity int64
	time     int64
	all      []api.Held
}

func (m *model) used() int64 {
	n := int64(0)
	for _, h := range m.all {
		n += bytesOf(h)
	}
	return n
}

// least returns the index of the least important record that is wanted, or -1.
func (m *model) least(wanted func(api.Held) bool) int {
	found := -1
	for i, h := range m.all {
		if wanted(h) && (found < 0 || lesser(h.Record, m.all[found].Record)) {
			found = i
		}
	}
	return found
}

// put puts a record, and returns the IDs of those that are dropped.
func (m *model) put(r api.Record) []int64 {
	m.all = append(m.all, held(r, false, notSent))
	var dropped []int64
	for m.used() > m.capacity || len(m.all) > 256 {
		i := m.least(func(h api.Held) bool { return !h.Small && h.Record.Packed < h.Record.Size })
		if i >= 0 && len(m.all) <= 256 {
			m.all[i].Small = true
			continue
		}
		i = m.least(func(api.Held) bool { return true })
		dropped = append(dropped, m.all[i].Record.ID)
		m.all = slices.Delete(m.all, i, i+1)
	}
	return dropped
}

// sort brings the records into the order from the most important one on.
func (m *model) sort() {
	slices.SortFunc(m.all, func(a, b api.Held) int {
		if lesser(b.Record, a.Record) {
			return -1
		}
		return 1
	})
}

// burst sends records, and returns their IDs.
func (m *model) burst(bytes, t, wait int64) []int64 {
	m.time = t
	m.sort()
	var sent []int64
	for i, h := range m.all {
		if h.Sent != -1 && h.Sent > t-wait || bytesOf(h) > bytes {
			continue
		}
		bytes -= bytesOf(h)
		m.all[i].Sent = t
		sent = append(sent, h.Record.ID)
	}
	return sent
}

// inSet tells whether a number is in a set.
func inSet(s []api.Span, x int64) bool {
	return slices.ContainsFunc(s, func(a api.Span) bool { return a.Lo <= x && x <= a.Hi })
}

// ack removes the records in a set, and returns how many they are.
func (m *model) ack(s []api.Span) int {
	n := len(m.all)
	m.all = slices.DeleteFunc(m.all, func(h api.Held) bool { return inSet(s, h.Record.ID) })
	return n - len(m.all)
}

// has tells whether a record has an ID.
func (m *model) has(id int64) bool {
	return slices.ContainsFunc(m.all, func(h api.Held) bool { return h.Record.ID == id })
}

// setOf returns the normal set of some numbers.
func setOf(numbers []int64) []api.Span {
	l := slices.Clone(numbers)
	slices.Sort(l)
	var s []api.Span
	for _, x := range l {
		if len(s) > 0 && x-s[len(s)-1].Hi <= 1 {
			s[len(s)-1].Hi = x
		} else {
			s = append(s, span(x, x))
		}
	}
	return s
}

// Random records.

// kind is what random records are like: how many IDs there are, and how great
// their times and sizes are at most.
type kind struct {
	ids, times, size int64
}

// kinds returns kinds with few and many IDs, times and sizes.
func kinds() []kind {
	return []kind{{8, 3, 20}, {30, 1, 6}, {30, 30, 40}, {400, 2, 3}, {2000, 2000, 1000}, {most + 1, most + 1, api.MaxBytes}}
}

// record returns a random record.
func (k kind) record(r *rand.Rand) api.Record {
	size := 1 + r.Int63n(k.size)
	packed := size
	if r.Intn(3) > 0 {
		packed = 1 + r.Int63n(size)
	}
	return record(r.Int63n(k.ids), r.Intn(10), r.Int63n(k.times), size, packed)
}

// set returns a random normal set of IDs, also of some beyond them.
func (k kind) set(r *rand.Rand) []api.Span {
	var l []api.Span
	for x := r.Int63n(k.ids) - 3; len(l) < r.Intn(6); {
		hi := x + r.Int63n(1+k.ids/8)
		if hi > most {
			break
		}
		l = append(l, span(x, hi))
		x = hi + 2 + r.Int63n(1+k.ids/8)
	}
	return l
}

// wildNumbers returns numbers far beyond all limits.
func wildNumbers() []int64 {
	return []int64{math.MinInt64, math.MinInt64 + 1, -1 << 62, -1 << 31, 1 << 31, 1 << 32, 1 << 62, math.MaxInt64 - 1, math.MaxInt64}
}
