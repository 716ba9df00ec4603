package house_test

import (
	"slices"
	"strings"
	"testing"

	"isobath/api"
	"isobath/house"
)

// arguments are those of all functions, and the house whose methods they are: none, or
// one in an observatory in which deeds were done, so many that it is full or not.
type arguments struct {
	o, in   api.Observatory
	none    bool
	full    bool
	before  []api.Deed
	d       api.Deed
	station int
	q       []api.Part
	l       []api.Deed
	text    string
}

// house returns the house of the arguments.
func (a arguments) house(t *testing.T) *house.House {
	t.Helper()
	if a.none {
		return new(house.House)
	}
	h := built(t, a.in, a.before...)
	for a.full && h.Many() < api.MaxDeeds {
		h.Do(repair())
	}
	return h
}

// wrong is a way in which arguments are not as they should be, and its error.
type wrong struct {
	name string
	put  func(a *arguments)
	want api.Errno
}

// call is a function with the faults that it names, in its order. It tells whether all
// results but the error are zero values.
type call struct {
	name   string
	d      api.Deed
	do     func(h *house.House, a arguments) (bool, api.Errno)
	faults []wrong
}

// good returns arguments for which all functions return OK.
func good() arguments {
	return arguments{o: example(), in: example(), before: diary(5), station: 1, q: above(spot(0, 0), 5), l: diary(7), text: textOf(diary(7))}
}

// first puts deeds before all others.
func (a *arguments) first(l ...api.Deed) { a.before = append(l, a.before...) }

// many63 returns 63 events of the station 1.
func many63() []api.Deed {
	var l []api.Deed
	for i := range int64(63) {
		l = append(l, check(1, 2000+i, 0, 9))
	}
	return l
}

// many65 returns deeds by which 65 readings of the station 1 arrive.
func many65() []api.Deed {
	var l []api.Deed
	for i := range int64(65) {
		l = append(l, read(1, i, 1, 2, 9, 1))
	}
	return append(l, ashore(0))
}

// The faults of houses and deeds.
var (
	noHouse   = wrong{"house", func(a *arguments) { a.none = true }, api.ErrNil}
	isFull    = wrong{"full", func(a *arguments) { a.full = true }, api.ErrFull}
	badKind   = wrong{"kind", func(a *arguments) { a.d.Kind = 6 }, api.ErrArg}
	badClass  = wrong{"class", func(a *arguments) { a.d.Class = 10 }, api.ErrArg}
	badStuck  = wrong{"stuck", func(a *arguments) { a.d.Stuck = []int{3} }, api.ErrArg}
	badOffset = wrong{"offset", func(a *arguments) { a.d.Event.Offset = span(1, 0) }, api.ErrArg}
	isLost    = wrong{"lost", func(a *arguments) { a.before = append(a.before, fault(1)) }, api.ErrTrip}
	isLate    = wrong{"late", func(a *arguments) { a.d.Sample.At = 1010 }, api.ErrLate}
	tooLarge  = wrong{"large", func(a *arguments) { a.d.Size = 201 }, api.ErrLimit}
	badBytes  = wrong{"bytes", func(a *arguments) { a.d.Bytes = -1 }, api.ErrRange}
	isKnown   = wrong{"known", func(a *arguments) { a.d.Event.At = 1000 }, api.ErrHave}
	noPlace   = wrong{"64 events", func(a *arguments) { a.before = append(a.before, many63()...) }, api.ErrMany}
)

// The faults of what is asked.
var (
	noStation = wrong{"station", func(a *arguments) { a.station = 2 }, api.ErrRange}
	tooMany   = wrong{"65 readings", func(a *arguments) { a.first(many65()...) }, api.ErrMany}
	notTrue   = wrong{"not consistent", func(a *arguments) { a.in.Field.Range = span(90, 95) }, api.ErrSum}
	longAsk   = wrong{"33 parts", func(a *arguments) { a.q = append(make([]api.Part, 33), a.q...) }, api.ErrMany}
	badPart   = wrong{"part", func(a *arguments) { a.q = append(slices.Clone(a.q), api.Part{}) }, api.ErrArg}
	noAnswer  = wrong{"no answer", func(a *arguments) { a.q = append(slices.Clone(a.q), a.q[0]) }, api.ErrRule}
)

// The faults of what is written and done again.
var (
	badHouse  = wrong{"observatory", func(a *arguments) { a.o.Pace = 0 }, api.ErrArg}
	badAgain  = wrong{"deed to be done again", func(a *arguments) { a.l = append([]api.Deed{send(-1, 0, 0, 0)}, a.l...) }, api.ErrRange}
	badDeed   = wrong{"deed", func(a *arguments) { a.l = append(slices.Clone(a.l), api.Deed{}) }, api.ErrArg}
	longDeeds = wrong{"201 deeds", func(a *arguments) { a.l = append(slices.Clone(a.l), slices.Repeat(diary(1), 201)...) }, api.ErrMany}
	longText  = wrong{"long text", func(a *arguments) { a.text += strings.Repeat("x", 65537) }, api.ErrLong}
	badText   = wrong{"text", func(a *arguments) { a.text += "x" }, api.ErrForm}
)

// doing returns the call that does a deed.
func doing(name string, d api.Deed, faults ...wrong) call {
	return call{name, d, func(h *house.House, a arguments) (bool, api.Errno) {
		x, e := h.Do(a.d)
		return cameOf(x) == cameOf(api.Outcome{}), e
	}, append([]wrong{noHouse, isFull}, faults...)}
}

// calls returns all functions that return errors, but Check and New.
func calls() []call {
	return []call{
		doing("read", read(0, 1300, 1, 2, 3, 4), badClass, isLost, isLate, tooLarge),
		doing("send", send(1, 1300, 0, 0), badKind, badBytes),
		doing("fault", fault(2), badStuck),
		doing("repair", repair(), badKind),
		doing("event", check(1, 1300, 0, 9), badOffset, isKnown, noPlace),
		{"Readings", api.Deed{}, func(h *house.House, a arguments) (bool, api.Errno) {
			n, s, e := h.Readings(a.station)
			return len(n) == 0 && len(s) == 0, e
		}, []wrong{noHouse, noStation}},
		{"Values", api.Deed{}, func(h *house.House, a arguments) (bool, api.Errno) {
			l, e := h.Values(a.station)
			return len(l) == 0, e
		}, []wrong{noHouse, noStation, tooMany}},
		{"Seen", api.Deed{}, func(h *house.House, a arguments) (bool, api.Errno) {
			l, e := h.Seen()
			return len(l) == 0, e
		}, []wrong{noHouse, tooMany}},
		{"Ask", api.Deed{}, func(h *house.House, a arguments) (bool, api.Errno) {
			x, e := h.Ask(a.q)
			return x == api.No, e
		}, []wrong{noHouse, tooMany, notTrue, longAsk, badPart, noAnswer}},
		{"Replay", api.Deed{}, func(_ *house.House, a arguments) (bool, api.Errno) {
			h, n, e := house.Replay(a.o, a.l)
			return h == nil && n == 0, e
		}, []wrong{badHouse, badAgain}},
		{"Text", api.Deed{}, func(_ *house.House, a arguments) (bool, api.Errno) {
			s, e := house.Text(a.o, a.l)
			return s == "", e
		}, []wrong{badHouse, longDeeds, badDeed}},
		{"Parse", api.Deed{}, func(_ *house.House, a arguments) (bool, api.Errno) {
			l, e := house.Parse(a.o, a.text)
			return len(l) == 0, e
		}, []wrong{badHouse, longText, badText}},
	}
}

// R1 and R2, for P12.2 to P12.7: of several errors the one that is named first is
// returned, all other results are zero values, and nothing has changed.
func TestOrderOfErrors(t *testing.T) {
	for _, f := range calls() {
		a := good()
		a.d = f.d
		if _, e := f.do(a.house(t), a); e != api.OK {
			t.Error(f.name, "returns", e)
		}
		for i, first := range f.faults {
			for k, second := range f.faults[i:] {
				a := good()
				a.d = f.d
				if k > 0 {
					second.put(&a)
				}
				first.put(&a)
				h := a.house(t)
				before := tells(h)
				if zero, e := f.do(h, a); e != first.want || !zero {
					t.Error(f.name, "returns", e, zero, "for", first.name, "and", second.name)
				}
				same(t, f.name, tells(h), api.OK, before, api.OK)
			}
		}
	}
}

// R1, for P12.2: of the deeds that are done again the first one with an error decides.
func TestOrderOfReplay(t *testing.T) {
	for _, l := range [][]api.Deed{{repair(), {}, send(-1, 0, 0, 0)}, {repair(), send(-1, 0, 0, 0), {}}} {
		h, n, e := house.Replay(example(), l)
		want := api.ErrArg
		if l[1].Kind == api.DeedSend {
			want = api.ErrRange
		}
		same(t, l, n, e, 1, want)
		same(t, l, h == nil, e, true, want)
	}
}

// R1, for P12.5: Ask and Seen return the error of a station before all of the field.
func TestOrderOfStations(t *testing.T) {
	a := good()
	notTrue.put(&a)
	for range 2 {
		h := a.house(t)
		l, e := h.Seen()
		same(t, "Seen", len(l) > 0, e, true, api.OK)
		x, e := h.Ask(nil)
		same(t, "Ask", x, e, api.No, api.ErrSum)
	}
	tooMany.put(&a)
	x, e := a.house(t).Ask(make([]api.Part, 33))
	same(t, "Ask", x, e, api.No, api.ErrMany)
}
