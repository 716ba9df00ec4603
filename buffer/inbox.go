package buffer

import (
	"maps"
	"slices"

	"isobath/api"
	"isobath/bound"
)

// Inbox is an inbox: its records by their IDs.
type Inbox struct {
	self    *Inbox
	records map[int64]api.Record
}

// valid tells whether an inbox was returned by this package, as that of a
// buffer does.
func (x *Inbox) valid() bool { return x != nil && x.self == x }

// inboxOf returns an inbox that keeps its records in a table.
func inboxOf(records map[int64]api.Record) *Inbox {
	x := &Inbox{records: records}
	x.self = x
	return x
}

// NewInbox returns an empty inbox. (P8.5)
func NewInbox() *Inbox { return inboxOf(make(map[int64]api.Record)) }

// Take takes a record. (P8.5)
func (x *Inbox) Take(r api.Record) (bool, api.Errno) {
	if !x.valid() {
		return false, api.ErrNil
	}
	if e := Check(r); e != api.OK {
		return false, e
	}
	if _, ok := x.records[r.ID]; ok {
		return false, api.OK
	}
	if len(x.records) >= api.MaxHeld {
		return false, api.ErrFull
	}
	x.records[r.ID] = r
	return true, api.OK
}

// Acks returns the acknowledgement. (P8.5)
func (x *Inbox) Acks() []api.Span {
	if !x.valid() {
		return nil
	}
	var l []api.Span
	for _, r := range x.Records() {
		l = append(l, api.Span{Lo: r.ID, Hi: r.ID})
	}
	// There are no more records than a set has spans, and their IDs are valid.
	s, _ := bound.Cover(l)
	return s
}

// Records returns all records. (P8.5)
func (x *Inbox) Records() []api.Record {
	if !x.valid() {
		return nil
	}
	var l []api.Record
	for _, id := range slices.Sorted(maps.Keys(x.records)) {
		l = append(l, x.records[id])
	}
	return l
}

// Copy returns an independent inbox. (P8.5)
func (x *Inbox) Copy() *Inbox {
	if !x.valid() {
		return nil
	}
	return inboxOf(maps.Clone(x.records))
}
