package house_test

import (
	"math"
	"math/rand"
	"reflect"
	"slices"
	"testing"

	"isobath/api"
	"isobath/house"
)

// bend is a change of an observatory, and whether it is valid then.
type bend struct {
	name   string
	change func(o *api.Observatory)
	ok     bool
}

// bends returns changes of the observatory of the examples.
func bends() []bend {
	l := []bend{
		{"nothing", func(o *api.Observatory) {}, true},
		{"no nodes", func(o *api.Observatory) { o.Cable.Nodes = nil }, false},
		{"a node", func(o *api.Observatory) { o.Cable.Nodes[2].Parent = 2 }, false},
		{"61 nodes", func(o *api.Observatory) { o.Cable.Nodes = append(o.Cable.Nodes, make([]api.Node, 57)...) }, false},
		{"60 nodes", func(o *api.Observatory) { o.Cable.Nodes = append(o.Cable.Nodes, make([]api.Node, 56)...) }, true},
		{"supply", func(o *api.Observatory) { o.Cable.Supply.Lo = -1 }, false},
		{"wide", func(o *api.Observatory) { o.Field.Wide = 9 }, false},
		{"moments", func(o *api.Observatory) { o.Field.Last = 8 }, false},
		{"range", func(o *api.Observatory) { o.Field.Range = span(1, 0) }, false},
		{"no stations", func(o *api.Observatory) { o.Stations = nil }, false},
		{"one station", func(o *api.Observatory) { o.Stations = o.Stations[1:] }, true},
		{"8 stations", func(o *api.Observatory) { o.Stations = append(o.Stations, make([]api.Station, 6)...) }, true},
		{"9 stations", func(o *api.Observatory) { o.Stations = append(o.Stations, make([]api.Station, 7)...) }, false},
		{"stations at the same place", func(o *api.Observatory) { o.Stations[1] = o.Stations[0] }, true},
		{"a bad last station", func(o *api.Observatory) { o.Stations = append(o.Stations, api.Station{Cell: 3}) }, false},
		{"no chain", func(o *api.Observatory) { o.Chain = nil }, true},
		{"a long chain", func(o *api.Observatory) { o.Chain = []int{4, 3, 2, 1} }, true},
		{"a step twice", func(o *api.Observatory) { o.Chain = []int{2, 2} }, false},
		{"a step 5", func(o *api.Observatory) { o.Chain = []int{5} }, false},
		{"9 steps", func(o *api.Observatory) { o.Chain = make([]int, 9) }, false},
	}
	l = append(l, bendsOf("Start", func(o *api.Observatory, x int64) { o.Start = x }, 0, 1<<30)...)
	l = append(l, bendsOf("Pace", func(o *api.Observatory, x int64) { o.Pace = x }, 1, 1<<20)...)
	l = append(l, bendsOf("Capacity", func(o *api.Observatory, x int64) { o.Capacity = x }, 1, 1<<24)...)
	l = append(l, bendsOf("Drift", func(o *api.Observatory, x int64) { o.Stations[1].Drift = x }, 0, 1<<20)...)
	l = append(l, bendsOf("Change", func(o *api.Observatory, x int64) { o.Stations[0].Change = x }, 0, 1<<20)...)
	l = append(l, bendsOf("Node", func(o *api.Observatory, x int64) { o.Stations[0].Node = int(x) }, 0, 3)...)
	return append(l, bendsOf("Cell", func(o *api.Observatory, x int64) { o.Stations[1].Cell = int(x) }, 0, 2)...)
}

// bendsOf returns changes of a number that has to be from lo to hi.
func bendsOf(name string, change func(o *api.Observatory, x int64), lo, hi int64) []bend {
	var l []bend
	for _, x := range []int64{lo, lo + 1, hi - 1, hi} {
		l = append(l, bend{name, func(o *api.Observatory) { change(o, x) }, true})
	}
	for _, x := range []int64{lo - 1, hi + 1, math.MinInt64, math.MaxInt64} {
		l = append(l, bend{name, func(o *api.Observatory) { change(o, x) }, false})
	}
	return l
}

// P12.1: Check returns ErrArg for an observatory that is not valid, and so does New.
func TestCheck(t *testing.T) {
	for _, x := range bends() {
		o, want := example(), api.OK
		x.change(&o)
		if !x.ok {
			want = api.ErrArg
		}
		if e := house.Check(o); e != want {
			t.Error(x.name, o, e)
		}
		h, e := house.New(o)
		if e != want || (h == nil) == x.ok {
			t.Error(x.name, o, h, e)
		}
		if x.ok {
			modelOf(o).holds(t, x.name, h)
		}
	}
	if e := house.Check(api.Observatory{}); e != api.ErrArg {
		t.Error(e)
	}
}

// P12.1: several things that are wrong are the same error.
func TestCheckOfAllThings(t *testing.T) {
	for _, x := range bends() {
		for _, y := range bends() {
			o := example()
			x.change(&o)
			if len(o.Stations) < 2 || len(o.Cable.Nodes) < 4 {
				continue
			}
			y.change(&o)
			if e := house.Check(o); !x.ok && !y.ok && x.name != y.name && e != api.ErrArg {
				t.Error(x.name, y.name, e)
			}
		}
	}
}

// The chapter's examples, for P12.2 to P12.5.
func TestExamples(t *testing.T) {
	h := made(t, example())
	does(t, h, firstRead(), api.Outcome{Record: 0}, api.OK)
	does(t, h, secondRead(), api.Outcome{Record: 1}, api.OK)
	does(t, h, check(0, 1000, 0, 5), api.Outcome{Record: -1}, api.OK)
	does(t, h, check(1, 1000, 2, 2), api.Outcome{Record: -1}, api.OK)
	does(t, h, send(100, 1200, 0, 1), api.Outcome{Record: -1, Arrived: []int64{0}}, api.OK)
	values, e := h.Values(0)
	cause := api.Cause{Step: api.StepRaw}
	equal(t, "Values", values, e, []api.Value{{Set: span(20, 30), Lo: cause, Hi: cause}}, api.OK)
	l, e := h.Seen()
	equal(t, "Seen", l, e, []api.Seen{seen(0, 0, 15, 35)}, api.OK)
	does(t, h, fault(2), api.Outcome{Record: -1, Lost: []int{2}}, api.OK)
	does(t, h, read(0, 1300, 1, 2, 3, 4), api.Outcome{}, api.ErrTrip)
	does(t, h, send(100, 1210, 0, 0), api.Outcome{Record: -1, Arrived: []int64{1}}, api.OK)
	l, e = h.Seen()
	equal(t, "Seen", l, e, []api.Seen{seen(0, 0, 15, 35), seen(1, 2, 53, 65)}, api.OK)
	text, e := house.Text(example(), diary(1))
	same(t, "Text", text, e, "read 0 1010 25 30 0 0 3 40\n", api.OK)
	same(t, "Many", h.Many(), api.OK, 7, api.OK)
	equal(t, "Lost", h.Lost(), api.OK, []int{2}, api.OK)
	equal(t, "Waiting", h.Waiting(), api.OK, nil, api.OK)
}

// P12.2: a reading is put into the buffer as its definition says, and those that it
// drops are told.
func TestRead(t *testing.T) {
	h := made(t, example())
	does(t, h, read(0, 1010, 1, 2, 3, 41), api.Outcome{Record: 0}, api.OK)
	does(t, h, read(1, 7, 1, 2, 9, 1), api.Outcome{Record: 1}, api.OK)
	records := []api.Record{{ID: 0, Class: 3, Made: 1010, Size: 41, Packed: 21}, {ID: 1, Class: 9, Made: 7, Size: 1, Packed: 1}}
	equal(t, "Waiting", h.Waiting(), api.OK, []api.Held{{Record: records[1], Sent: -1}, {Record: records[0], Sent: -1}}, api.OK)
	does(t, h, read(1, 8, 1, 2, 5, 150), api.Outcome{Record: 2}, api.OK)
	does(t, h, read(1, 9, 1, 2, 5, 10), api.Outcome{Record: 3, Dropped: []int64{0}}, api.OK)
	does(t, h, read(1, 10, 1, 2, 0, 60), api.Outcome{Record: 4, Dropped: []int64{4}}, api.OK)
	does(t, h, read(1, 11, 1, 2, 6, 190), api.Outcome{Record: 5, Dropped: []int64{2, 3}}, api.OK)
	same(t, "Many", h.Many(), api.OK, 6, api.OK)
}

// P12.2: a reading that cannot be put into the buffer is not taken, and its number is
// that of the next one.
func TestReadOfTooMuch(t *testing.T) {
	h := made(t, example())
	for _, size := range []int64{201, 202, 1 << 24} {
		does(t, h, read(0, 1010, 1, 2, 3, size), api.Outcome{}, api.ErrLimit)
	}
	does(t, h, read(0, 1010, 1, 2, 3, 200), api.Outcome{Record: 0}, api.OK)
	does(t, h, read(0, 1011, 1, 2, 3, 201), api.Outcome{}, api.ErrLimit)
	does(t, h, read(0, 1011, 1, 2, 3, 1), api.Outcome{Record: 1, Dropped: []int64{0}}, api.OK)
	same(t, "Many", h.Many(), api.OK, 2, api.OK)
}

// P12.2: the time of a reading is greater than that of the last one of its station,
// also if this one was dropped.
func TestReadIsLate(t *testing.T) {
	h := built(t, example(), read(0, 1010, 1, 2, 3, 200), read(1, 5, 1, 2, 4, 200))
	equal(t, "Waiting", h.Waiting(), api.OK, []api.Held{{Record: api.Record{ID: 1, Class: 4, Made: 5, Size: 200, Packed: 100}, Small: true, Sent: -1}}, api.OK)
	for _, at := range []int64{0, 5, 6, 1009, 1010} {
		does(t, h, read(0, at, 1, 2, 3, 4), api.Outcome{}, api.ErrLate)
	}
	does(t, h, read(1, 5, 1, 2, 3, 4), api.Outcome{}, api.ErrLate)
	does(t, h, read(1, 6, 1, 2, 3, 4), api.Outcome{Record: 2, Dropped: []int64{2}}, api.OK)
	does(t, h, read(1, 6, 1, 2, 9, 4), api.Outcome{}, api.ErrLate)
	does(t, h, read(0, 1011, 1, 2, 9, 4), api.Outcome{Record: 3, Dropped: []int64{1}}, api.OK)
	h = built(t, example(), read(1, most, 1, 2, 3, 4))
	does(t, h, read(1, most, 1, 2, 3, 4), api.Outcome{}, api.ErrLate)
	does(t, h, read(0, 0, 1, 2, 3, 4), api.Outcome{Record: 1}, api.OK)
	does(t, h, read(0, 0, 1, 2, 3, 4), api.Outcome{}, api.ErrLate)
}

// P12.2: a station whose node is lost takes no reading, until the cable is repaired.
func TestFaults(t *testing.T) {
	h := made(t, example())
	lost := func(l ...int) api.Outcome { return api.Outcome{Record: -1, Lost: l} }
	does(t, h, fault(2), lost(2), api.OK)
	does(t, h, read(0, 1, 1, 2, 3, 4), api.Outcome{}, api.ErrTrip)
	does(t, h, read(1, 1, 1, 2, 3, 4), api.Outcome{Record: 0}, api.OK)
	does(t, h, fault(2, 2), lost(2), api.OK)
	does(t, h, fault(3), lost(1, 2, 3), api.OK)
	does(t, h, fault(1, 1), lost(1, 2, 3), api.OK)
	does(t, h, read(1, 2, 1, 2, 3, 4), api.Outcome{}, api.ErrTrip)
	equal(t, "Lost", h.Lost(), api.OK, []int{1, 2, 3}, api.OK)
	does(t, h, repair(), lost(), api.OK)
	equal(t, "Lost", h.Lost(), api.OK, nil, api.OK)
	does(t, h, read(1, 2, 1, 2, 3, 4), api.Outcome{Record: 1}, api.OK)
	does(t, h, fault(3, 1, 1, 2), lost(0, 1, 2, 3), api.OK)
	does(t, h, repair(), lost(), api.OK)
	does(t, h, repair(), lost(), api.OK)
	does(t, h, fault(1), lost(1, 2, 3), api.OK)
	same(t, "Many", h.Many(), api.OK, 11, api.OK)
}

// P12.2: nodes are lost in addition to others, in increasing order.
func TestFaultsOfBranches(t *testing.T) {
	o := example()
	for k := range o.Cable.Nodes[1:] {
		o.Cable.Nodes[1+k].Parent, o.Cable.Nodes[1+k].Delay = 0, 5
	}
	h := made(t, o)
	does(t, h, fault(3), api.Outcome{Record: -1, Lost: []int{3}}, api.OK)
	does(t, h, fault(1), api.Outcome{Record: -1, Lost: []int{1, 3}}, api.OK)
	does(t, h, fault(2), api.Outcome{Record: -1, Lost: []int{1, 2, 3}}, api.OK)
}

// P12.2: of the records that are sent those are lost whose bit is 1; what the inbox
// has is not taken again.
func TestSend(t *testing.T) {
	came := func(l ...int64) api.Outcome { return api.Outcome{Record: -1, Arrived: l} }
	h := built(t, roomy(), read(0, 1, 1, 2, 1, 10), read(0, 2, 1, 2, 2, 10), read(0, 3, 1, 2, 3, 10), read(0, 4, 1, 2, 4, 10))
	does(t, h, deaf(send(100, 50, 0, 0b0101)), came(2, 0), api.OK)
	same(t, "Waiting", len(h.Waiting()), api.OK, 4, api.OK)
	does(t, h, deaf(send(20, 50, 0, 0)), came(3), api.OK)
	does(t, h, send(20, 50, 0, 0b11), came(), api.OK)
	same(t, "Waiting", len(h.Waiting()), api.OK, 1, api.OK)
	does(t, h, send(9, 60, 0, 0), came(), api.OK)
	does(t, h, send(10, 59, 0, 0), api.Outcome{}, api.ErrRange)
	does(t, h, send(10, 60, 11, 0), came(), api.OK)
	does(t, h, send(10, 61, 11, 1), came(), api.OK)
	does(t, h, send(10, 71, 11, 0), came(), api.OK)
	does(t, h, send(10, 72, 11, 1<<31), came(1), api.OK)
	equal(t, "Waiting", h.Waiting(), api.OK, nil, api.OK)
	same(t, "Many", h.Many(), api.OK, 12, api.OK)
}

// P12.2: the records from the index 32 on are not lost, whatever the bits are.
func TestSendOfManyRecords(t *testing.T) {
	var l []api.Deed
	var late []int64
	for i := range int64(40) {
		l = append(l, read(0, i, 1, 2, 1, 10))
	}
	for i := range int64(8) {
		late = append(late, 7-i)
	}
	h := built(t, roomy(), l...)
	c := h.Copy()
	does(t, h, send(400, 50, 0, math.MaxUint32), api.Outcome{Record: -1, Arrived: late}, api.OK)
	does(t, c, send(320, 50, 0, 1<<31-1), api.Outcome{Record: -1, Arrived: []int64{8}}, api.OK)
	does(t, h, send(320, 50, 0, 0xfffffffe), api.Outcome{Record: -1, Arrived: []int64{39}}, api.OK)
}

// P12.2: the errors of a burst are those of layer 8.
func TestSendOutOfRange(t *testing.T) {
	h := built(t, example(), firstRead(), send(0, 500, 0, 0))
	before := tells(h)
	for _, d := range []api.Deed{
		send(-1, 500, 0, 0), send(1<<24+1, 500, 0, 0), send(9, 499, 0, 0), send(9, most+1, 0, 0), send(9, 500, -1, 0), send(9, 500, most+1, 0),
		send(math.MinInt64, 500, 0, 0), send(9, math.MaxInt64, 0, 0), send(9, 500, math.MaxInt64, 0), send(9, math.MinInt64, math.MinInt64, 0),
	} {
		does(t, h, d, api.Outcome{}, api.ErrRange)
	}
	same(t, "state", tells(h), api.OK, before, api.OK)
	does(t, h, send(1<<24, most, most, 0), api.Outcome{Record: -1, Arrived: []int64{0}}, api.OK)
}

// P12.2: an event becomes known once, and at most 64 of a station.
func TestEvents(t *testing.T) {
	done := api.Outcome{Record: -1}
	h := made(t, example())
	does(t, h, check(0, 5, 0, 1), done, api.OK)
	for _, d := range []api.Deed{check(0, 5, 0, 1), check(0, 5, 7, 8), clean(0, 5, 0, 1)} {
		does(t, h, d, api.Outcome{}, api.ErrHave)
	}
	does(t, h, clean(1, 5, 0, 1), done, api.OK)
	for at := int64(64); at > 0; at-- {
		if at != 5 {
			does(t, h, check(0, at, 0, 1), done, api.OK)
		}
	}
	does(t, h, check(0, 65, 0, 1), api.Outcome{}, api.ErrMany)
	does(t, h, check(0, 64, 0, 1), api.Outcome{}, api.ErrHave)
	does(t, h, check(1, 65, 0, 1), done, api.OK)
	same(t, "Many", h.Many(), api.OK, 66, api.OK)
}

// P12.2: at most 200 deeds are done; those that returned errors do not count.
func TestFull(t *testing.T) {
	h := made(t, example())
	for n := range 200 {
		same(t, "Many", h.Many(), api.OK, n, api.OK)
		does(t, h, api.Deed{}, api.Outcome{}, api.ErrArg)
		does(t, h, repair(), api.Outcome{Record: -1}, api.OK)
	}
	for _, d := range append(everyKind(), api.Deed{}, send(-1, 0, 0, 0)) {
		does(t, h, d, api.Outcome{}, api.ErrFull)
	}
	same(t, "Many", h.Many(), api.OK, 200, api.OK)
}

// P12.3: Waiting returns the records from the most important one on, whether they are
// compressed and when they were sent, Arrived those of the inbox by their numbers.
func TestState(t *testing.T) {
	h := built(t, example(), firstRead(), secondRead(), fault(2), read(1, 1200, 1, 2, 9, 35))
	records := []api.Record{{ID: 0, Class: 3, Made: 1010, Size: 40, Packed: 20}, {ID: 1, Class: 5, Made: 1150, Size: 60, Packed: 30}, {ID: 2, Class: 9, Made: 1200, Size: 35, Packed: 18}}
	waits := func(id int, small bool, sent int64) api.Held {
		return api.Held{Record: records[id], Small: small, Sent: sent}
	}
	state := func(many int, waiting []api.Held, arrived []api.Record) {
		t.Helper()
		same(t, "Many", h.Many(), api.OK, many, api.OK)
		equal(t, "Lost", h.Lost(), api.OK, []int{2}, api.OK)
		equal(t, "Waiting", h.Waiting(), api.OK, waiting, api.OK)
		equal(t, "Arrived", h.Arrived(), api.OK, arrived, api.OK)
	}
	state(4, []api.Held{waits(2, false, -1), waits(1, true, -1), waits(0, true, -1)}, nil)
	does(t, h, deaf(send(60, 1300, 0, 0)), api.Outcome{Record: -1, Arrived: []int64{2, 0}}, api.OK)
	state(5, []api.Held{waits(2, false, 1300), waits(1, true, -1), waits(0, true, 1300)}, []api.Record{records[0], records[2]})
	does(t, h, send(0, 1301, 0, 0), api.Outcome{Record: -1}, api.OK)
	state(6, []api.Held{waits(1, true, -1)}, []api.Record{records[0], records[2]})
	does(t, h, send(30, 1302, 0, 0), api.Outcome{Record: -1, Arrived: []int64{1}}, api.OK)
	state(7, nil, records)
}

// knock is a deed, and whether it is valid for the examples.
type knock struct {
	d  api.Deed
	ok bool
}

// knocks returns deeds that are valid, or just not.
func knocks() []knock {
	good, wide := firstRead(), api.Span{Lo: -most, Hi: most}
	l := []knock{
		{api.Deed{}, false}, {api.Deed{Kind: -1}, false}, {api.Deed{Kind: 6}, false}, {api.Deed{Kind: math.MaxInt64}, false}, {api.Deed{Kind: math.MinInt64}, false},
		{read(-1, 1, 1, 2, 3, 4), false}, {read(2, 1, 1, 2, 3, 4), false}, {read(math.MaxInt64, 1, 1, 2, 3, 4), false}, {read(math.MinInt64, 1, 1, 2, 3, 4), false},
		{read(0, -1, 1, 2, 3, 4), false}, {read(0, most+1, 1, 2, 3, 4), false}, {read(0, 0, 1, 2, 3, 4), true}, {read(0, most, 1, 2, 3, 4), true},
		{read(0, 1, 2, 1, 3, 4), false}, {read(0, 1, -most-1, 1, 3, 4), false}, {read(0, 1, 1, most+1, 3, 4), false}, {read(0, 1, -most, most, 3, 4), true},
		{read(0, 1, 1, 2, -1, 4), false}, {read(0, 1, 1, 2, 10, 4), false}, {read(0, 1, 1, 2, 0, 4), true}, {read(0, 1, 1, 2, 9, 4), true},
		{read(0, 1, 1, 2, 3, 0), false}, {read(0, 1, 1, 2, 3, -1), false}, {read(0, 1, 1, 2, 3, 1<<24+1), false}, {read(0, 1, 1, 2, 3, 1<<24), true}, {read(0, 1, 1, 2, 3, 1), true},
		{withClimate(good, 1, 0), false}, {withClimate(good, 0, most+1), false}, {withClimate(good, -most, most), true},
		{read(0, 1, 1, 2, 3, 4, slices.Repeat([]api.Span{wide}, 8)...), true}, {read(0, 1, 1, 2, 3, 4, slices.Repeat([]api.Span{wide}, 9)...), false},
		{read(0, 1, 1, 2, 3, 4, span(0, 0), span(1, 0)), false}, {read(0, 1, 1, 2, 3, 4, span(-most-1, 0)), false},
		{fault(0), false}, {fault(-1), false}, {fault(4), false}, {fault(math.MaxInt64), false}, {fault(1), true}, {fault(3), true},
		{fault(1, 0), false}, {fault(1, 3), false}, {fault(1, 4), false}, {fault(1, -1), false}, {fault(1, 1, 2), true}, {fault(1, 2, 1, 3), false},
		{fault(1, slices.Repeat([]int{2}, 16)...), true}, {fault(1, slices.Repeat([]int{2}, 17)...), false}, {repair(), true},
		{check(-1, 1, 0, 0), false}, {check(2, 1, 0, 0), false}, {check(1, 1, 0, 0), true}, {check(math.MinInt64, 1, 0, 0), false},
		{check(0, -1, 0, 0), false}, {check(0, most+1, 0, 0), false}, {check(0, most, 0, 0), true}, {clean(0, 0, 0, 0), true},
		{check(0, 1, 1, 0), false}, {check(0, 1, -most-1, 0), false}, {check(0, 1, 0, most+1), false}, {clean(0, 1, -most, most), true},
	}
	for _, kind := range []int{-1, 0, 3, math.MaxInt64} {
		d := check(0, 1, 0, 0)
		d.Event.Kind = kind
		l = append(l, knock{d, false})
	}
	return l
}

// P12.2: Do returns ErrArg for a deed that is not valid, and changes nothing.
func TestDeedsThatAreNotValid(t *testing.T) {
	for i, x := range knocks() {
		h := made(t, roomy())
		before := tells(h)
		_, e := h.Do(x.d)
		same(t, x.d, e == api.OK, api.OK, x.ok, api.OK)
		if !x.ok {
			does(t, h, x.d, api.Outcome{}, api.ErrArg)
			same(t, i, tells(h), api.OK, before, api.OK)
		}
	}
}

// stray returns a deed of a kind to which everything that belongs to other kinds was
// added, and is not valid there.
func stray(d api.Deed) api.Deed {
	x := api.Deed{Station: -1, Sample: api.Sample{At: -1, Raw: span(1, 0), Near: make([]api.Span, 9)}, Class: 10, Size: -1, Bytes: -1, At: -1, Wait: -1, Lost: 1, Deaf: true, Segment: -1, Stuck: []int{0}, Event: api.Event{Kind: 3, At: -1}}
	x.Kind = d.Kind
	switch d.Kind {
	case api.DeedRead:
		x.Station, x.Sample, x.Class, x.Size = d.Station, d.Sample, d.Class, d.Size
	case api.DeedSend:
		x.Bytes, x.At, x.Wait, x.Lost, x.Deaf = d.Bytes, d.At, d.Wait, d.Lost, d.Deaf
	case api.DeedFault:
		x.Segment, x.Stuck = d.Segment, d.Stuck
	case api.DeedEvent:
		x.Station, x.Event = d.Station, d.Event
	}
	return x
}

// P12.2: what does not belong to the kind of a deed does not matter.
func TestStrayParts(t *testing.T) {
	h, g := made(t, roomy()), made(t, roomy())
	for _, d := range append(diary(7), everyKind()...) {
		x, e := h.Do(d)
		y, f := g.Do(stray(d))
		same(t, d, cameOf(y), f, cameOf(x), e)
		same(t, d, tells(g), api.OK, tells(h), api.OK)
	}
	same(t, "Many", h.Many() > 8, api.OK, true, api.OK)
}

// P12.2 to P12.5: what random deeds do is what the definitions say.
func TestRandomDeeds(t *testing.T) {
	r := rand.New(rand.NewSource(1))
	errors, answers := map[api.Errno]int{}, map[api.Answer]int{}
	arrived, dropped, lost, observed, empty := 0, 0, 0, 0, 0
	for n := range 600 {
		z := sizes()[n%len(sizes())]
		l := z.begin(r)
		h, m := made(t, l.o), modelOf(l.o)
		for range 20 + r.Intn(60) {
			d := l.deed()
			got, e := h.Do(d)
			want, wantErr := m.do(d)
			same(t, d, cameOf(got), e, cameOf(want), wantErr)
			errors[e]++
			arrived, dropped, lost = arrived+len(got.Arrived), dropped+len(got.Dropped), lost+len(got.Lost)
			if r.Intn(4) == 0 {
				m.holds(t, l.o, h, questions(r, l.o.Field, 1)...)
			}
		}
		m.holds(t, l.o, h, questions(r, l.o.Field, 3)...)
		for _, q := range questions(r, l.o.Field, 3) {
			if x, e := h.Ask(q); e == api.OK {
				answers[x]++
			} else {
				errors[e]++
			}
		}
		all, _ := h.Seen()
		observed += len(all)
		values, _ := h.Values(0)
		for _, v := range values {
			if v.Empty {
				empty++
			}
		}
	}
	for _, e := range []api.Errno{api.OK, api.ErrTrip, api.ErrLate, api.ErrLimit, api.ErrRange, api.ErrHave, api.ErrArg, api.ErrSum} {
		if errors[e] < 50 {
			t.Error(errors)
		}
	}
	if min(answers[api.No], answers[api.Open], answers[api.Yes]) < 50 || min(arrived, dropped, lost, observed, empty) < 300 {
		t.Error(answers, arrived, dropped, lost, observed, empty)
	}
}

// P12.1 and P12.13: a copy is in the same state, and neither changes the other one.
func TestCopy(t *testing.T) {
	r := rand.New(rand.NewSource(2))
	for n := range 120 {
		z := sizes()[n%len(sizes())]
		l := z.begin(r)
		h, m := made(t, l.o), modelOf(l.o)
		for range r.Intn(40) {
			d := l.deed()
			h.Do(d)
			m.do(d)
		}
		q := questions(r, l.o.Field, 2)
		before, c := tells(h, q...), h.Copy()
		m.holds(t, "copy", c, q...)
		for range r.Intn(40) {
			c.Do(l.deed())
		}
		same(t, n, tells(h, q...), api.OK, before, api.OK)
		after := tells(c, q...)
		for range r.Intn(40) {
			d := l.deed()
			got, e := h.Do(d)
			want, wantErr := m.do(d)
			same(t, d, cameOf(got), e, cameOf(want), wantErr)
		}
		m.holds(t, "house", h, q...)
		same(t, n, tells(c, q...), api.OK, after, api.OK)
	}
}

// P12.13: two copies of a house go their own ways, also by deeds of the same kind.
func TestCopiesAreAlone(t *testing.T) {
	h := built(t, roomy(), diary(4)...)
	for _, d := range append(everyKind(), send(60, 1200, 0, 0)) {
		for _, x := range append(everyKind(), send(60, 1200, 0, 1)) {
			a, b := h.Copy(), h.Copy()
			a.Do(d)
			before := tells(a)
			b.Do(x)
			same(t, d, tells(a), api.OK, before, api.OK)
			c := h.Copy()
			c.Do(d)
			same(t, d, tells(c), api.OK, before, api.OK)
		}
	}
}

// A house has just the methods of the chapter, and nothing of it can be changed from
// elsewhere.
func TestFace(t *testing.T) {
	x := reflect.TypeOf(&house.House{})
	var names []string
	for i := range x.NumMethod() {
		names = append(names, x.Method(i).Name)
	}
	equal(t, "methods", names, api.OK, []string{"Arrived", "Ask", "Copy", "Do", "Lost", "Many", "Readings", "Seen", "Values", "Waiting"}, api.OK)
	for i := range x.Elem().NumField() {
		if f := x.Elem().Field(i); f.IsExported() {
			t.Error(f.Name)
		}
	}
}
