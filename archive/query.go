package archive

import "isobath/api"

// view is what a query finds in an archive: the entries, in order, the bounds of
// their series, and whether the reader sees an entry.
type view struct {
	found  []api.Entry
	bounds api.Span
	sees   func(e api.Entry) bool
}

// isSeries tells whether a number is the index of a series.
func (a *Archive) isSeries(i int) bool { return within(i, 0, len(a.series)-1) }

// isQuery tells whether a query is valid.
func (a *Archive) isQuery(q api.Query) bool {
	times := isTime(q.Now) && isTime(q.AsOf) && isTime(q.From) && isTime(q.To)
	return within(q.Reader, 0, api.MaxOwners-1) && times && a.isSeries(q.Series) && q.From < q.To
}

// look returns what a query finds.
func (a *Archive) look(q api.Query) (view, api.Errno) {
	if !a.valid() {
		return view{}, api.ErrNil
	}
	if !a.isQuery(q) {
		return view{}, api.ErrArg
	}
	v := view{bounds: a.series[q.Series].Bounds}
	v.sees = func(e api.Entry) bool { return e.Owner == q.Reader || e.Free <= q.Now }
	for e := range a.counting(q.AsOf) {
		if e.Series == q.Series && within(e.Time, q.From, q.To-1) {
			v.found = append(v.found, e)
		}
	}
	return v, api.OK
}

// shown returns the entries that are not hidden, in order.
func (v view) shown() []api.Entry {
	var l []api.Entry
	for _, e := range v.found {
		if v.sees(e) {
			l = append(l, e)
		}
	}
	return l
}

// known returns the known value of an entry.
func (v view) known(e api.Entry) api.Span {
	if v.sees(e) {
		return e.Value
	}
	return v.bounds
}

// down returns a quotient, rounded down.
func down(x, n int64) int64 {
	q := x / n
	if x%n < 0 {
		q--
	}
	return q
}

// up returns a quotient, rounded up.
func up(x, n int64) int64 { return -down(-x, n) }

// mean returns the mean of the known values; there has to be one.
func (v view) mean() api.Span {
	sum, n := api.Span{}, int64(len(v.found))
	for _, e := range v.found {
		x := v.known(e)
		sum.Lo, sum.Hi = sum.Lo+x.Lo, sum.Hi+x.Hi
	}
	return api.Span{Lo: down(sum.Lo, n), Hi: up(sum.Hi, n)}
}

// Counts returns the entry that counts. (P11.4)
func (a *Archive) Counts(series int, time, asOf int64) (api.Entry, api.Errno) {
	if !a.valid() {
		return api.Entry{}, api.ErrNil
	}
	if !a.isSeries(series) || !isTime(time) || !isTime(asOf) {
		return api.Entry{}, api.ErrArg
	}
	for e := range a.counting(asOf) {
		if e.Series == series && e.Time == time {
			return e, api.OK
		}
	}
	return api.Entry{}, api.ErrNone
}

// Find returns what a query finds and is not hidden from it, and how many entries
// are hidden. (P11.5)
func (a *Archive) Find(q api.Query) ([]api.Entry, int, api.Errno) {
	v, wrong := a.look(q)
	if wrong != api.OK {
		return nil, 0, wrong
	}
	l := v.shown()
	return l, len(v.found) - len(l), api.OK
}

// Mean returns the mean of a query. (P11.5)
func (a *Archive) Mean(q api.Query) (api.Span, api.Errno) {
	v, wrong := a.look(q)
	if wrong != api.OK {
		return api.Span{}, wrong
	}
	if len(v.found) == 0 {
		return api.Span{}, api.ErrNone
	}
	return v.mean(), api.OK
}

// Below returns whether the mean of a query is below a limit. (P11.6)
func (a *Archive) Below(q api.Query, limit int64) (api.Answer, api.Errno) {
	mean, wrong := a.Mean(q)
	switch {
	case wrong != api.OK:
		return api.No, wrong
	case mean.Hi < limit:
		return api.Yes, api.OK
	case mean.Lo >= limit:
		return api.No, api.OK
	}
	return api.Open, api.OK
}
