package house

import (
	"cmp"
	"slices"

	"isobath/api"
	"isobath/cable"
	"isobath/sensor"
)

// noRecord is the number of a new record where there is none.
const noRecord = -1

// deed is a deed by its kind.
type deed interface {
	// fits tells whether it is valid for an observatory.
	fits(o api.Observatory) bool
	// do does it, if it is valid. With an error the state is of no use any more.
	do(s *state) (api.Outcome, error)
	// own returns it without what does not belong to its kind.
	own() api.Deed
	// words returns those of its line.
	words() []string
}

// The deeds of all kinds.
type (
	taking    struct{ api.Deed }
	sending   struct{ api.Deed }
	failing   struct{ api.Deed }
	repairing struct{ api.Deed }
	learning  struct{ api.Deed }
)

// deedOf returns a deed by its kind, and whether there is this kind.
func deedOf(d api.Deed) (deed, bool) {
	switch d.Kind {
	case api.DeedRead:
		return taking{d}, true
	case api.DeedSend:
		return sending{d}, true
	case api.DeedFault:
		return failing{d}, true
	case api.DeedRepair:
		return repairing{d}, true
	case api.DeedEvent:
		return learning{d}, true
	}
	return nil, false
}

// hasStation tells whether an observatory has a station.
func hasStation(o api.Observatory, k int) bool { return within(k, 0, len(o.Stations)-1) }

func (d taking) fits(o api.Observatory) bool {
	sample := sensor.CheckSamples([]api.Sample{d.Sample}) == api.OK
	return hasStation(o, d.Station) && sample && within(d.Class, 0, api.MaxClass) && within(d.Size, 1, api.MaxBytes)
}

func (d taking) own() api.Deed {
	return api.Deed{Kind: d.Kind, Station: d.Station, Sample: d.Sample, Class: d.Class, Size: d.Size}
}

func (d taking) do(s *state) (api.Outcome, error) {
	if slices.Contains(s.lost, s.observatory.Stations[d.Station].Node) {
		return api.Outcome{}, failure{api.ErrTrip}
	}
	if d.Sample.At <= s.last(d.Station) {
		return api.Outcome{}, failure{api.ErrLate}
	}
	number := int64(len(s.readings))
	r := api.Record{ID: number, Class: d.Class, Made: d.Sample.At, Size: d.Size, Packed: (d.Size + 1) / 2}
	dropped, e := s.Put(r)
	if e != api.OK {
		return api.Outcome{}, failure{e}
	}
	s.readings = append(s.readings, reading{d.Station, clonedSample(d.Sample), r})
	return api.Outcome{Record: number, Dropped: dropped}, nil
}

// What is wrong with a burst is told when it is sent.
func (d sending) fits(api.Observatory) bool { return true }

func (d sending) own() api.Deed {
	return api.Deed{Kind: d.Kind, Bytes: d.Bytes, At: d.At, Wait: d.Wait, Lost: d.Lost, Deaf: d.Deaf}
}

// isLost tells whether the record with an index in the burst gets lost.
func (d sending) isLost(i int) bool { return d.Lost>>i&1 == 1 }

func (d sending) do(s *state) (api.Outcome, error) {
	sent, e := s.Burst(d.Bytes, d.At, d.Wait)
	if e != api.OK {
		return api.Outcome{}, failure{e}
	}
	out := api.Outcome{Record: noRecord}
	for i, id := range sent {
		if d.isLost(i) {
			continue
		}
		// An inbox has a place for each reading that deeds can take.
		if took, _ := s.inbox.Take(s.readings[id].record); took {
			out.Arrived = append(out.Arrived, id)
		}
	}
	if !d.Deaf {
		s.Ack(s.inbox.Acks())
	}
	return out, nil
}

// cut returns the nodes that are lost after the fault alone.
func (d failing) cut(o api.Observatory) ([]int, api.Errno) {
	return cable.Lost(o.Cable, []int{d.Segment}, d.Stuck)
}

func (d failing) fits(o api.Observatory) bool {
	_, e := d.cut(o)
	return e == api.OK
}

func (d failing) own() api.Deed {
	return api.Deed{Kind: d.Kind, Segment: d.Segment, Stuck: d.Stuck}
}

func (d failing) do(s *state) (api.Outcome, error) {
	if !slices.Contains(s.lost, d.Segment) {
		// For a fault that fits there is no error.
		more, _ := d.cut(s.observatory)
		s.lost = append(s.lost, more...)
		slices.Sort(s.lost)
		s.lost = slices.Compact(s.lost)
	}
	return api.Outcome{Record: noRecord, Lost: slices.Clone(s.lost)}, nil
}

func (d repairing) fits(api.Observatory) bool { return true }

func (d repairing) own() api.Deed { return api.Deed{Kind: d.Kind} }

func (d repairing) do(s *state) (api.Outcome, error) {
	s.lost = nil
	return api.Outcome{Record: noRecord}, nil
}

func (d learning) fits(o api.Observatory) bool {
	return hasStation(o, d.Station) && sensor.Check(api.Sensor{Events: []api.Event{d.Event}}) == api.OK
}

func (d learning) own() api.Deed {
	return api.Deed{Kind: d.Kind, Station: d.Station, Event: d.Event}
}

func (d learning) do(s *state) (api.Outcome, error) {
	known := s.events[d.Station]
	i, have := slices.BinarySearchFunc(known, d.Event, func(a, b api.Event) int { return cmp.Compare(a.At, b.At) })
	if have {
		return api.Outcome{}, failure{api.ErrHave}
	}
	if len(known) >= api.MaxEvents {
		return api.Outcome{}, failure{api.ErrMany}
	}
	s.events[d.Station] = slices.Insert(known, i, d.Event)
	return api.Outcome{Record: noRecord}, nil
}
