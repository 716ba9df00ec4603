package house

import (
	"slices"

	"isobath/api"
	"isobath/cable"
	"isobath/field"
	"isobath/sensor"
)

// isStation tells whether a station of an observatory is valid.
func isStation(o api.Observatory, s api.Station) bool {
	node := within(s.Node, 0, len(o.Cable.Nodes)-1)
	cell := within(s.Cell, 0, o.Field.Wide*o.Field.High-1)
	return node && cell && within(s.Drift, 0, api.MaxRate) && within(s.Change, 0, api.MaxRate)
}

// Check reports whether an observatory is valid. (P12.1)
func Check(o api.Observatory) api.Errno {
	if cable.Check(o.Cable) != api.OK || field.Check(o.Field) != api.OK || sensor.CheckChain(o.Chain) != api.OK {
		return api.ErrArg
	}
	if !within(o.Start, 0, api.MaxTime) || !within(o.Pace, 1, api.MaxPace) || !within(o.Capacity, 1, api.MaxBytes) {
		return api.ErrArg
	}
	stations := within(len(o.Stations), 1, api.MaxStations)
	if !stations || !all(o.Stations, func(s api.Station) bool { return isStation(o, s) }) {
		return api.ErrArg
	}
	return api.OK
}

// cloned returns an observatory that shares no memory with another one.
func cloned(o api.Observatory) api.Observatory {
	o.Cable.Nodes = slices.Clone(o.Cable.Nodes)
	o.Stations = slices.Clone(o.Stations)
	o.Chain = slices.Clone(o.Chain)
	return o
}
