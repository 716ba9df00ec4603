package house

import (
	"slices"

	"isobath/api"
	"isobath/buffer"
)

// reading is a reading that was taken.
type reading struct {
	station int
	sample  api.Sample
	record  api.Record
}

// state is what a house consists of: its observatory, its buffer and its inbox, its
// readings by their numbers, the events that are known for each station in the order
// of their At, the lost nodes in increasing order, and how many deeds were done. Its
// time is that of the buffer.
type state struct {
	*buffer.Buffer
	observatory api.Observatory
	inbox       *buffer.Inbox
	readings    []reading
	events      [][]api.Event
	lost        []int
	many        int
}

// begin returns the state of a house at first.
func begin(o api.Observatory) state {
	// The capacity of a valid observatory is one of a buffer.
	b, _ := buffer.New(o.Capacity)
	return state{
		Buffer:      b,
		observatory: cloned(o),
		inbox:       buffer.NewInbox(),
		events:      make([][]api.Event, len(o.Stations)),
	}
}

// eachOf returns what a function makes of each element of a list.
func eachOf[T any](l []T, change func(T) T) []T {
	var changed []T
	for _, x := range l {
		changed = append(changed, change(x))
	}
	return changed
}

// clonedSample returns a sample that shares no memory with another one.
func clonedSample(s api.Sample) api.Sample {
	s.Near = slices.Clone(s.Near)
	return s
}

// copy returns a state that shares no memory with another one.
func (s state) copy() state {
	s.Buffer, s.inbox = s.Copy(), s.inbox.Copy()
	s.observatory = cloned(s.observatory)
	s.readings = eachOf(s.readings, func(r reading) reading {
		r.sample = clonedSample(r.sample)
		return r
	})
	s.events = eachOf(s.events, slices.Clone)
	s.lost = slices.Clone(s.lost)
	return s
}

// last returns the time of the last reading of a station; if it took none, one that
// is before all times.
func (s *state) last(station int) int64 {
	for _, r := range slices.Backward(s.readings) {
		if r.station == station {
			return r.sample.At
		}
	}
	return -1
}

// do does a deed. With an error the state is of no use any more.
func (s *state) do(d api.Deed) (api.Outcome, error) {
	if s.many >= api.MaxDeeds {
		return api.Outcome{}, failure{api.ErrFull}
	}
	x, ok := deedOf(d)
	if !ok || !x.fits(s.observatory) {
		return api.Outcome{}, failure{api.ErrArg}
	}
	s.many++
	return x.do(s)
}
