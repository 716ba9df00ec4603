// Package frame holds the calls of all layers against the chapters: where one is
// missing or has another signature, this package does not compile.
package frame

import (
	"testing"

	"isobath/api"
	"isobath/archive"
	"isobath/bound"
	"isobath/buffer"
	"isobath/cable"
	"isobath/clock"
	"isobath/field"
	"isobath/glider"
	"isobath/house"
	"isobath/mooring"
	"isobath/sensor"
	"isobath/sound"
	"isobath/voyage"
)

// The calls of layer 1.
var (
	_ func(a api.Span) api.Errno                                                      = bound.Check
	_ func(a, b api.Span) (api.Span, api.Errno)                                       = bound.Add
	_ func(a, b api.Span) (api.Span, api.Errno)                                       = bound.Sub
	_ func(a, b api.Span) (api.Span, api.Errno)                                       = bound.Mul
	_ func(a api.Span, n, d int64) (api.Span, api.Errno)                              = bound.Scale
	_ func(a, b api.Span) (api.Span, api.Errno)                                       = bound.Div
	_ func(a api.Span) (api.Span, api.Errno)                                          = bound.Root
	_ func(a api.Span, by int64) (api.Span, api.Errno)                                = bound.Grow
	_ func(a, b api.Span) (api.Span, api.Errno)                                       = bound.Hull
	_ func(a, b api.Span) (api.Span, api.Errno)                                       = bound.Meet
	_ func(t0 int64, a api.Span, t1 int64, b api.Span, t int64) (api.Span, api.Errno) = bound.Line
	_ func(a, b api.Span) (api.Answer, api.Errno)                                     = bound.Less
	_ func(a, b api.Span) (api.Answer, api.Errno)                                     = bound.In
	_ func(l []api.Answer) (api.Answer, api.Errno)                                    = bound.All
	_ func(l []api.Answer) (api.Answer, api.Errno)                                    = bound.Any
	_ func(x api.Answer) (api.Answer, api.Errno)                                      = bound.Not
	_ func(s []api.Span) api.Errno                                                    = bound.CheckSet
	_ func(l []api.Span) ([]api.Span, api.Errno)                                      = bound.Cover
	_ func(s, t []api.Span) ([]api.Span, api.Errno)                                   = bound.Unite
	_ func(s, t []api.Span) ([]api.Span, api.Errno)                                   = bound.Cut
	_ func(s []api.Span, within api.Span) ([]api.Span, api.Errno)                     = bound.Outside
	_ func(s []api.Span, x int64) (bool, api.Errno)                                   = bound.Has
	_ func(s []api.Span) (int64, api.Errno)                                           = bound.Count
	_ func(b api.Box) api.Errno                                                       = bound.CheckBox
	_ func(a, b api.Box) (int64, int64, api.Errno)                                    = bound.Square
	_ func(a, b api.Box) (api.Span, api.Errno)                                        = bound.Distance
)

// The calls of layer 2.
var (
	_ func(m api.Mooring) api.Errno                                                    = mooring.Check
	_ func(m api.Mooring) ([]int64, api.Errno)                                         = mooring.Lifts
	_ func(m api.Mooring, c []api.Span) ([]api.Span, api.Errno)                        = mooring.Forces
	_ func(m api.Mooring, c []api.Span, free bool) ([]api.Span, api.Errno)             = mooring.Pulls
	_ func(m api.Mooring, c []api.Span, free bool) ([]api.Span, api.Errno)             = mooring.Tensions
	_ func(m api.Mooring, c []api.Span, free bool) ([]api.Span, []api.Span, api.Errno) = mooring.Shape
	_ func(m api.Mooring, c []api.Span, free bool) (api.Span, api.Errno)               = mooring.Top
	_ func(m api.Mooring, c []api.Span, free bool) (int64, api.Errno)                  = mooring.Circle
	_ func(m api.Mooring, c []api.Span, free bool) (api.Span, api.Errno)               = mooring.Knock
	_ func(m api.Mooring, c []api.Span, free bool) ([]api.Answer, api.Errno)           = mooring.Strong
	_ func(m api.Mooring, c []api.Span, free bool) (api.Answer, api.Errno)             = mooring.Holds
	_ func(m api.Mooring, k int) (api.Mooring, bool, api.Errno)                        = mooring.Break
	_ func(codes []int) (int, api.Errno)                                               = mooring.Spacing
	_ func(codes []int, heard, wrong int) ([]int, api.Errno)                           = mooring.Answers
	_ func(a api.Area, start []int, l []api.Hour) ([]int, bool, api.Errno)             = mooring.Where
	_ func(a api.Area, start []int, l []api.Hour) (int, api.Errno)                     = mooring.Found
)

// The calls of layer 3.
var (
	_ func(s api.Sea) api.Errno                                                                                                = glider.CheckSea
	_ func(v api.Vehicle) api.Errno                                                                                            = glider.CheckVehicle
	_ func(s api.Sea, b api.Box, layer int, from, to int64) (api.Current, api.Errno)                                           = glider.At
	_ func(s api.Sea, v api.Vehicle, b api.Box, t int64, c api.Course) (api.Box, api.Errno)                                    = glider.Dive
	_ func(s api.Sea, v api.Vehicle, b api.Box, t int64, plan []api.Course) ([]api.Box, int, api.Errno)                        = glider.Run
	_ func(v api.Vehicle, e api.Span, plan []api.Course) ([]api.Span, int, api.Errno)                                          = glider.Energy
	_ func(v api.Vehicle, e api.Span) (int64, api.Errno)                                                                       = glider.Lasts
	_ func(v api.Vehicle, t int64, boxes []api.Box, p api.Pickup) (api.Answer, api.Errno)                                      = glider.Fetched
	_ func(s api.Sea, v api.Vehicle, b api.Box, t int64, e api.Span, plan []api.Course, p api.Pickup) api.Errno                = glider.CheckPlan
	_ func(s api.Sea, v api.Vehicle, b api.Box, t int64, e api.Span, p api.Pickup, dives int) ([]api.Course, int64, api.Errno) = glider.Best
	_ func(s api.Sea, v api.Vehicle, b api.Box, t int64, dives int) ([]api.Box, api.Errno)                                     = glider.Reach
	_ func(s api.Sea, v api.Vehicle, b api.Box, t int64, boxes []api.Box) api.Errno                                            = glider.CheckReach
	_ func(s api.Sea, v api.Vehicle, b api.Box, t int64, p api.Pickup, dives int) ([]api.Box, api.Errno)                       = glider.Never
	_ func(s api.Sea, runs [][]api.Box) ([]api.Answer, api.Errno)                                                              = glider.Visited
)

// The calls of layer 4.
var (
	_ func(c api.Cable) api.Errno                                                  = cable.Check
	_ func(c api.Cable, k int) ([]int, api.Errno)                                  = cable.Path
	_ func(c api.Cable, k int) ([]int, api.Errno)                                  = cable.Subtree
	_ func(c api.Cable) ([]api.Span, api.Errno)                                    = cable.Currents
	_ func(c api.Cable) ([]api.Span, api.Errno)                                    = cable.Voltages
	_ func(c api.Cable) ([]api.Answer, api.Errno)                                  = cable.Within
	_ func(c api.Cable) ([]api.Answer, api.Errno)                                  = cable.Fed
	_ func(c api.Cable, requests []int64, ranks []int) ([]int64, api.Errno)        = cable.Share
	_ func(c api.Cable, grants []int64) (int, api.Errno)                           = cable.CheckShare
	_ func(c api.Cable, fault int, stuck []int) (int, api.Errno)                   = cable.Opens
	_ func(c api.Cable, faults, stuck []int) ([]int, api.Errno)                    = cable.Lost
	_ func(c api.Cable, margin int64) (int, int, api.Errno)                        = cable.Coordinated
	_ func(m api.Measure) (api.Span, api.Errno)                                    = cable.Distance
	_ func(l []api.Measure) (api.Span, api.Errno)                                  = cable.Locate
	_ func(c api.Cable, lengths []int64, k int, place api.Span) ([]int, api.Errno) = cable.Segments
)

// The calls of layer 5.
var (
	_ func(x api.Exchange) api.Errno                             = clock.CheckExchange
	_ func(x api.Exchange, rate int64) (api.Span, api.Errno)     = clock.Offset
	_ func(c api.Clock) api.Errno                                = clock.CheckClock
	_ func(c api.Clock, t int64) (api.Span, api.Errno)           = clock.At
	_ func(c api.Clock) (int, int, api.Errno)                    = clock.Contradiction
	_ func(c api.Clock, i, k int) api.Errno                      = clock.CheckContradiction
	_ func(c api.Clock, limit int64) (int64, api.Errno)          = clock.Due
	_ func(l []api.Clock) api.Errno                              = clock.CheckHouse
	_ func(l []api.Clock, s api.Stamp) (api.Span, api.Errno)     = clock.Time
	_ func(l []api.Clock, s []api.Stamp) ([]api.Span, api.Errno) = clock.Times
	_ func(a, b api.Span) (api.Answer, api.Errno)                = clock.Before
	_ func(l []api.Span) ([][2]int, api.Errno)                   = clock.Ranks
	_ func(l []api.Span) (api.Span, api.Errno)                   = clock.Common
)

// The calls of layer 6.
var (
	_ func(s api.Sensor) api.Errno                                                       = sensor.Check
	_ func(l []api.Sample) api.Errno                                                     = sensor.CheckSamples
	_ func(c []int) api.Errno                                                            = sensor.CheckChain
	_ func(s api.Sensor, t int64) ([]int, api.Errno)                                     = sensor.Counting
	_ func(s api.Sensor, t int64) (api.Span, api.Errno)                                  = sensor.Offset
	_ func(s api.Sensor, l []api.Sample, c []int, i int) ([]api.Bounded, api.Errno)      = sensor.Constraints
	_ func(s api.Sensor, l []api.Sample, c []int) ([]api.Value, api.Errno)               = sensor.Process
	_ func(s api.Sensor, l []api.Sample, c []int, limit int64) ([]api.Answer, api.Errno) = sensor.Above
	_ func(s api.Sensor, l []api.Sample, c, d []int) ([]int, api.Errno)                  = sensor.Changed
	_ func(s api.Sensor, l []api.Sample, c []int) (int, api.Cause, api.Cause, api.Errno) = sensor.Contradict
)

// The calls of layer 7.
var (
	_ func(l []api.Span, h int64) ([]api.Answer, api.Errno)                                                = sound.Loud
	_ func(choice []bool, n int) (int, api.Errno)                                                          = sound.Calls
	_ func(l []api.Answer, n int) (api.Span, api.Errno)                                                    = sound.Count
	_ func(l []api.Answer, n int) ([]bool, api.Errno)                                                      = sound.Fewest
	_ func(l []api.Answer, n int) ([]bool, api.Errno)                                                      = sound.Most
	_ func(n api.Net) api.Errno                                                                            = sound.CheckNet
	_ func(n api.Net, b api.Box, station int) (api.Span, api.Errno)                                        = sound.Travel
	_ func(n api.Net, a []api.Span, b api.Box) (api.Span, api.Errno)                                       = sound.Origin
	_ func(n api.Net, a []api.Span, b api.Box) (int, int, api.Errno)                                       = sound.Excluded
	_ func(n api.Net, a []api.Span, b api.Box, i, k int) api.Errno                                         = sound.CheckExcluded
	_ func(n api.Net, a []api.Span, area api.Box, depth int) ([]api.Box, api.Errno)                        = sound.Region
	_ func(l []api.Gauge, r api.Rule, k int) (api.Answer, api.Errno)                                       = sound.Raised
	_ func(l []api.Gauge, r api.Rule) (int, int, api.Errno)                                                = sound.First
	_ func(n api.Net, source api.Box, origin api.Span, at int64, l []api.Coast) ([]api.Warning, api.Errno) = sound.Warn
)

// The calls of layer 8.
var (
	_ func(r api.Record) api.Errno                                      = buffer.Check
	_ func(a, b api.Record) (bool, api.Errno)                           = buffer.Less
	_ func(capacity int64) (*buffer.Buffer, api.Errno)                  = buffer.New
	_ func(b *buffer.Buffer, r api.Record) ([]int64, api.Errno)         = (*buffer.Buffer).Put
	_ func(b *buffer.Buffer, bytes, t, wait int64) ([]int64, api.Errno) = (*buffer.Buffer).Burst
	_ func(b *buffer.Buffer, s []api.Span) (int, api.Errno)             = (*buffer.Buffer).Ack
	_ func(b *buffer.Buffer) []api.Held                                 = (*buffer.Buffer).Held
	_ func(b *buffer.Buffer) int64                                      = (*buffer.Buffer).Used
	_ func(b *buffer.Buffer) *buffer.Buffer                             = (*buffer.Buffer).Copy
	_ func() *buffer.Inbox                                              = buffer.NewInbox
	_ func(x *buffer.Inbox, r api.Record) (bool, api.Errno)             = (*buffer.Inbox).Take
	_ func(x *buffer.Inbox) []api.Span                                  = (*buffer.Inbox).Acks
	_ func(x *buffer.Inbox) []api.Record                                = (*buffer.Inbox).Records
	_ func(x *buffer.Inbox) *buffer.Inbox                               = (*buffer.Inbox).Copy
	_ func(l []api.Parcel, bytes int64) ([]int, int64, api.Errno)       = buffer.Best
)

// The calls of layer 9.
var (
	_ func(c api.Chart) api.Errno                                                                   = voyage.CheckChart
	_ func(c api.Chart, s api.Ship) api.Errno                                                       = voyage.CheckShip
	_ func(c api.Chart, s api.Ship, l []api.Job) api.Errno                                          = voyage.CheckJobs
	_ func(c api.Chart, s api.Ship, j api.Job, from int64) (int64, api.Errno)                       = voyage.Fit
	_ func(c api.Chart, s api.Ship, l []api.Job, order []int) ([]int64, int64, api.Errno)           = voyage.Times
	_ func(c api.Chart, s api.Ship, l []api.Job, order []int, starts []int64) (int, api.Errno)      = voyage.CheckStarts
	_ func(c api.Chart, s api.Ship, l []api.Job, order []int) (int64, api.Errno)                    = voyage.Value
	_ func(c api.Chart, s api.Ship, l []api.Job) ([]int, int64, api.Errno)                          = voyage.Best
	_ func(c api.Chart, s api.Ship, l []api.Job, order []int) ([]int, api.Errno)                    = voyage.Extend
	_ func(c api.Chart, s api.Ship, l []api.Job, n, d int64) (int64, api.Errno)                     = voyage.Bound
	_ func(c api.Chart, s api.Ship, l []api.Job) (int64, int64, int64, api.Errno)                   = voyage.Rate
	_ func(c api.Chart, s api.Ship, l []api.Job, order []int) (int64, api.Errno)                    = voyage.Gap
	_ func(c api.Chart, s api.Ship, l []api.Job, order []int, now int64) (int, api.Ship, api.Errno) = voyage.Rest
)

// The calls of layer 10.
var (
	_ func(f api.Field) api.Errno                                                   = field.Check
	_ func(f api.Field, l []api.Seen) api.Errno                                     = field.CheckSeen
	_ func(f api.Field, a, b api.Spot) (int64, api.Errno)                           = field.Distance
	_ func(f api.Field, v []int64) (bool, api.Errno)                                = field.Possible
	_ func(f api.Field, l []api.Seen, v []int64) (bool, api.Errno)                  = field.Fits
	_ func(f api.Field, l []api.Seen) (int, int, api.Errno)                         = field.Contradict
	_ func(f api.Field, l []api.Seen) ([]api.Span, api.Errno)                       = field.Sets
	_ func(f api.Field, l []api.Seen, region []int, t int) (api.Span, api.Errno)    = field.Content
	_ func(f api.Field, l []api.Seen, region []int, t, u int) (api.Span, api.Errno) = field.Change
	_ func(f api.Field, l []api.Seen, b api.Budget) (api.Span, api.Errno)           = field.Rest
	_ func(f api.Field, l []api.Seen, b api.Budget) (api.Answer, api.Errno)         = field.Closes
	_ func(f api.Field, l []api.Seen, q []api.Part) (api.Answer, api.Errno)         = field.Ask
	_ func(f api.Field, l []api.Seen, s api.Spot, e int64) (int64, api.Errno)       = field.Promise
	_ func(f api.Field, l []api.Seen, e int64) (api.Spot, int64, api.Errno)         = field.Next
)

// The calls of layer 11.
var (
	_ func(s []api.Series) (*archive.Archive, api.Errno)                            = archive.New
	_ func(a *archive.Archive, e api.Entry) api.Errno                               = (*archive.Archive).Add
	_ func(a *archive.Archive, b *archive.Archive) api.Errno                        = (*archive.Archive).Merge
	_ func(a *archive.Archive) *archive.Archive                                     = (*archive.Archive).Copy
	_ func(a *archive.Archive) []api.Entry                                          = (*archive.Archive).Entries
	_ func(a *archive.Archive, series int, time, asOf int64) (api.Entry, api.Errno) = (*archive.Archive).Counts
	_ func(a *archive.Archive, q api.Query) ([]api.Entry, int, api.Errno)           = (*archive.Archive).Find
	_ func(a *archive.Archive, q api.Query) (api.Span, api.Errno)                   = (*archive.Archive).Mean
	_ func(a *archive.Archive, q api.Query, limit int64) (api.Answer, api.Errno)    = (*archive.Archive).Below
	_ func(a *archive.Archive, q api.Query) (api.Product, api.Errno)                = (*archive.Archive).Publish
	_ func(a *archive.Archive, p api.Product) api.Errno                             = (*archive.Archive).CheckProduct
	_ func(a *archive.Archive, asOf int64) (string, api.Errno)                      = (*archive.Archive).Text
	_ func(s []api.Series, text string) (*archive.Archive, api.Errno)               = archive.Parse
)

// The calls of layer 12.
var (
	_ func(o api.Observatory) api.Errno                                    = house.Check
	_ func(o api.Observatory) (*house.House, api.Errno)                    = house.New
	_ func(h *house.House, d api.Deed) (api.Outcome, api.Errno)            = (*house.House).Do
	_ func(h *house.House) int                                             = (*house.House).Many
	_ func(h *house.House) []int                                           = (*house.House).Lost
	_ func(h *house.House) []api.Held                                      = (*house.House).Waiting
	_ func(h *house.House) []api.Record                                    = (*house.House).Arrived
	_ func(h *house.House, station int) ([]int64, []api.Sample, api.Errno) = (*house.House).Readings
	_ func(h *house.House, station int) ([]api.Value, api.Errno)           = (*house.House).Values
	_ func(h *house.House) ([]api.Seen, api.Errno)                         = (*house.House).Seen
	_ func(h *house.House, q []api.Part) (api.Answer, api.Errno)           = (*house.House).Ask
	_ func(h *house.House) *house.House                                    = (*house.House).Copy
	_ func(o api.Observatory, l []api.Deed) (*house.House, int, api.Errno) = house.Replay
	_ func(o api.Observatory, l []api.Deed) (string, api.Errno)            = house.Text
	_ func(o api.Observatory, s string) ([]api.Deed, api.Errno)            = house.Parse
)

// The limits that all layers share are those of DOC.md.
func TestLimits(t *testing.T) {
	if api.MaxValue != 1<<30 || api.MaxName != 20 || api.MaxText != 65536 {
		t.Error(api.MaxValue, api.MaxName, api.MaxText)
	}
}

// The error codes are those of DOC.md, in its order.
func TestErrors(t *testing.T) {
	for i, e := range []api.Errno{
		api.OK, api.ErrNil, api.ErrArg, api.ErrRange, api.ErrOver, api.ErrNone, api.ErrMany, api.ErrLong,
		api.ErrForm, api.ErrZero, api.ErrState, api.ErrFull, api.ErrHave, api.ErrOld, api.ErrLimit, api.ErrPlan,
		api.ErrSum, api.ErrEqual, api.ErrTrip, api.ErrLost, api.ErrDue, api.ErrRule, api.ErrLate,
	} {
		if int(e) != i {
			t.Error(i, e)
		}
	}
}
