package buffer_test

import (
	"slices"
	"testing"

	"isobath/api"
	"isobath/buffer"
)

// arguments are those of all functions, and the objects whose methods they are.
type arguments struct {
	b              *buffer.Buffer
	x              *buffer.Inbox
	r, other       api.Record
	bytes, t, wait int64
	s              []api.Span
	l              []api.Parcel
}

// fault is a way in which arguments are not as they should be, and its error.
type fault struct {
	name string
	put  func(a *arguments)
	want api.Errno
}

// call is a function with the faults that it names, in its order. It tells
// whether all results but the error are zero values.
type call struct {
	name   string
	do     func(a arguments) (bool, api.Errno)
	faults []fault
}

// good returns arguments for which all functions return OK.
func good(t *testing.T) arguments {
	t.Helper()
	b := filled(t, 1000, plains(1, 10, 20)...)
	if _, e := b.Burst(100, 50, 0); e != api.OK {
		t.Fatal(e)
	}
	x := inbox(t, plains(1, 256, 20)...)
	return arguments{b, x, record(20, 5, 10, 900, 400), third(), 100, 60, 5, []api.Span{span(1, 2), span(5, 6)}, []api.Parcel{parcel(60, 100)}}
}

// The faults of the arguments.
var (
	noBuffer  = fault{"buffer", func(a *arguments) { a.b = new(buffer.Buffer) }, api.ErrNil}
	noInbox   = fault{"inbox", func(a *arguments) { a.x = new(buffer.Inbox) }, api.ErrNil}
	badRecord = fault{"record", func(a *arguments) { a.r.Class = -1 }, api.ErrArg}
	badOther  = fault{"other record", func(a *arguments) { a.other.Class = 10 }, api.ErrArg}
	known     = fault{"known", func(a *arguments) { a.r.ID = 7 }, api.ErrHave}
	tooLarge  = fault{"too large", func(a *arguments) { a.r.Size, a.r.Packed = 1<<24, 1001 }, api.ErrLimit}
	unknown   = fault{"no place", func(a *arguments) { a.r.ID = 0 }, api.ErrFull}
	badBytes  = fault{"bytes", func(a *arguments) { a.bytes = -1 }, api.ErrRange}
	badTime   = fault{"time", func(a *arguments) { a.t = 49 }, api.ErrRange}
	badWait   = fault{"wait", func(a *arguments) { a.wait = -1 }, api.ErrRange}
	longSet   = fault{"long set", func(a *arguments) { a.s = append(make([]api.Span, 256), a.s...) }, api.ErrMany}
	badSet    = fault{"set", func(a *arguments) { a.s = append(slices.Clone(a.s), span(7, 7)) }, api.ErrArg}
	many      = fault{"many parcels", func(a *arguments) { a.l = append(make([]api.Parcel, 24), a.l...) }, api.ErrMany}
	badParcel = fault{"parcel", func(a *arguments) { a.l = append(slices.Clone(a.l), api.Parcel{}) }, api.ErrArg}
)

// calls returns all functions that return errors, but New.
func calls() []call {
	return []call{
		{"Check", func(a arguments) (bool, api.Errno) { return true, buffer.Check(a.r) }, []fault{badRecord}},
		{"Less", func(a arguments) (bool, api.Errno) {
			less, e := buffer.Less(a.r, a.other)
			return !less, e
		}, []fault{badRecord, badOther}},
		{"Put", func(a arguments) (bool, api.Errno) {
			dropped, e := a.b.Put(a.r)
			return len(dropped) == 0, e
		}, []fault{noBuffer, badRecord, known, tooLarge}},
		{"Burst", func(a arguments) (bool, api.Errno) {
			sent, e := a.b.Burst(a.bytes, a.t, a.wait)
			return len(sent) == 0, e
		}, []fault{noBuffer, badBytes, badTime, badWait}},
		{"Ack", func(a arguments) (bool, api.Errno) {
			n, e := a.b.Ack(a.s)
			return n == 0, e
		}, []fault{noBuffer, longSet, badSet}},
		{"Take", func(a arguments) (bool, api.Errno) {
			took, e := a.x.Take(a.r)
			return !took, e
		}, []fault{noInbox, badRecord, unknown}},
		{"Best", func(a arguments) (bool, api.Errno) {
			c, worth, e := buffer.Best(a.l, a.bytes)
			return len(c) == 0 && worth == 0, e
		}, []fault{many, badParcel, badBytes}},
	}
}

// R1 and R2, for P8.1 to P8.6: of several errors the one that is named first is
// returned, all other results are zero values, and nothing has changed.
func TestOrderOfErrors(t *testing.T) {
	for _, f := range calls() {
		if _, e := f.do(good(t)); e != api.OK && f.name != "Take" {
			t.Error(f.name, "returns", e)
		}
		for i, first := range f.faults {
			for _, second := range f.faults[i:] {
				a := good(t)
				second.put(&a)
				first.put(&a)
				held, records := a.b.Held(), a.x.Records()
				if zero, e := f.do(a); e != first.want || !zero {
					t.Error(f.name, "returns", e, zero, "for", first.name, "and", second.name)
				}
				equalState(t, f.name, a.b, held)
				equal(t, f.name, a.x.Records(), api.OK, records, api.OK)
			}
		}
	}
}

// R1, for P8.5: whether a record is known comes before whether there is a place.
func TestOrderOfTake(t *testing.T) {
	a := good(t)
	known.put(&a)
	took, e := a.x.Take(a.r)
	same(t, "known", took, e, false, api.OK)
	badRecord.put(&a)
	took, e = a.x.Take(a.r)
	same(t, "known and not valid", took, e, false, api.ErrArg)
}
