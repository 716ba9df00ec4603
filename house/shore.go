package house

import (
	"iter"

	"isobath/api"
	"isobath/bound"
	"isobath/field"
	"isobath/sensor"
)

// arrived yields the readings that arrived, in the order of their numbers.
func (s *state) arrived() iter.Seq2[int64, reading] {
	return func(yield func(int64, reading) bool) {
		for _, r := range s.inbox.Records() {
			if !yield(r.ID, s.readings[r.ID]) {
				return
			}
		}
	}
}

// readingsOf returns the numbers and the samples of the readings of a station that
// arrived.
func (s *state) readingsOf(station int) ([]int64, []api.Sample) {
	var numbers []int64
	var samples []api.Sample
	for n, r := range s.arrived() {
		if r.station == station {
			numbers = append(numbers, n)
			samples = append(samples, clonedSample(r.sample))
		}
	}
	return numbers, samples
}

// sensorOf returns the sensor of a station.
func (s *state) sensorOf(station int) api.Sensor {
	x := s.observatory.Stations[station]
	return api.Sensor{Events: s.events[station], Drift: x.Drift, Change: x.Change}
}

// valuesOf returns the values of a station. That they may be too many is the only
// error that is possible.
func (s *state) valuesOf(station int) ([]api.Value, error) {
	_, samples := s.readingsOf(station)
	l, e := sensor.Process(s.sensorOf(station), samples, s.observatory.Chain)
	return l, failed(e)
}

// values returns the values of all stations, or the error of the first one that has
// one.
func (s *state) values() ([][]api.Value, error) {
	var l [][]api.Value
	for k := range s.observatory.Stations {
		v, err := s.valuesOf(k)
		if err != nil {
			return nil, err
		}
		l = append(l, v)
	}
	return l, nil
}

// observation returns the observation that a reading with a value is, and whether it
// is one.
func observation(o api.Observatory, r reading, v api.Value) (api.Seen, bool) {
	after := r.sample.At - o.Start
	if v.Empty || v == (api.Value{}) || after < 0 || after/o.Pace > int64(o.Field.Last) {
		return api.Seen{}, false
	}
	c := o.Field.Change
	x := api.Seen{
		Spot: api.Spot{Moment: int(after / o.Pace), Cell: o.Stations[r.station].Cell},
		Set:  api.Span{Lo: v.Set.Lo - c, Hi: v.Set.Hi + c},
	}
	return x, bound.Check(x.Set) == api.OK
}

// seen returns the observations.
func (s *state) seen() ([]api.Seen, error) {
	values, err := s.values()
	if err != nil {
		return nil, err
	}
	var l []api.Seen
	for _, r := range s.arrived() {
		v := values[r.station][0]
		values[r.station] = values[r.station][1:]
		if x, ok := observation(s.observatory, r, v); ok && len(l) < api.MaxSeen {
			l = append(l, x)
		}
	}
	return l, nil
}

// ask returns the answer to a question.
func (s *state) ask(q []api.Part) (api.Answer, error) {
	l, err := s.seen()
	if err != nil {
		return api.No, err
	}
	x, e := field.Ask(s.observatory.Field, l, q)
	return x, failed(e)
}

// Readings returns the readings of a station that arrived. (P12.4)
func (h *House) Readings(station int) ([]int64, []api.Sample, api.Errno) {
	if !h.valid() {
		return nil, nil, api.ErrNil
	}
	if !hasStation(h.now.observatory, station) {
		return nil, nil, api.ErrRange
	}
	numbers, samples := h.now.readingsOf(station)
	return numbers, samples, api.OK
}

// Values returns the values of a station. (P12.4)
func (h *House) Values(station int) ([]api.Value, api.Errno) {
	if !h.valid() {
		return nil, api.ErrNil
	}
	if !hasStation(h.now.observatory, station) {
		return nil, api.ErrRange
	}
	l, err := h.now.valuesOf(station)
	return l, codeOf(err)
}

// Seen returns the observations. (P12.5)
func (h *House) Seen() ([]api.Seen, api.Errno) {
	if !h.valid() {
		return nil, api.ErrNil
	}
	l, err := h.now.seen()
	return l, codeOf(err)
}

// Ask returns the answer to a question. (P12.5)
func (h *House) Ask(q []api.Part) (api.Answer, api.Errno) {
	if !h.valid() {
		return api.No, api.ErrNil
	}
	x, err := h.now.ask(q)
	return x, codeOf(err)
}
