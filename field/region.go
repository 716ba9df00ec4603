package field

import "isobath/api"

// isRegion tells whether a list of cells is a region of a field.
func isRegion(f api.Field, region []int) bool {
	for i, c := range region {
		if !isCell(f, c) || i > 0 && c <= region[i-1] {
			return false
		}
	}
	return len(region) > 0
}

// total returns the span from the sum of all Lo to the sum of all Hi.
func total(l []api.Span) api.Span {
	var sum api.Span
	for _, s := range l {
		sum.Lo += s.Lo
		sum.Hi += s.Hi
	}
	return sum
}

// at returns the sets of the cells of a region at a moment.
func (t table) at(f api.Field, region []int, moment int) []api.Span {
	var l []api.Span
	for _, c := range region {
		l = append(l, t.of[number(f, api.Spot{Moment: moment, Cell: c})])
	}
	return l
}

// difference returns by how much a value in the span a is greater than one in b,
// if the two differ by at most far.
func difference(a, b api.Span, far int64) api.Span {
	return meet(api.Span{Lo: a.Lo - b.Hi, Hi: a.Hi - b.Lo}, api.Span{Lo: -far, Hi: far})
}

// content returns the content of a region at a moment.
func (t table) content(f api.Field, region []int, moment int) api.Span {
	return total(t.at(f, region, moment))
}

// change returns the change of a region from one moment to a later one.
func (t table) change(f api.Field, region []int, from, to int) api.Span {
	far := f.Change * apart(from, to)
	before, after := t.at(f, region, from), t.at(f, region, to)
	var l []api.Span
	for i := range region {
		l = append(l, difference(after[i], before[i], far))
	}
	return total(l)
}

// Content returns the content of a region. (P10.4)
func Content(f api.Field, l []api.Seen, region []int, t int) (api.Span, api.Errno) {
	m, e := known(f, l)
	switch {
	case e != api.OK:
		return api.Span{}, e
	case !isRegion(f, region):
		return api.Span{}, api.ErrArg
	case !isMoment(f, t):
		return api.Span{}, api.ErrRange
	}
	return m.content(f, region, t), api.OK
}

// isPeriod tells whether a field has two moments, of which the first is earlier.
func isPeriod(f api.Field, from, to int) bool {
	return isMoment(f, from) && isMoment(f, to) && from < to
}

// Change returns the change of a region. (P10.4)
func Change(f api.Field, l []api.Seen, region []int, t, u int) (api.Span, api.Errno) {
	m, e := known(f, l)
	switch {
	case e != api.OK:
		return api.Span{}, e
	case !isRegion(f, region):
		return api.Span{}, api.ErrArg
	case !isPeriod(f, t, u):
		return api.Span{}, api.ErrRange
	}
	return m.change(f, region, t, u), api.OK
}

// isBudget tells whether a budget is valid.
func isBudget(f api.Field, b api.Budget) bool {
	fluxes := len(b.Fluxes) <= api.MaxFluxes && all(b.Fluxes, isSpan)
	return isRegion(f, b.Region) && isPeriod(f, b.From, b.To) && fluxes
}

// Rest returns the rest of a budget. (P10.5)
func Rest(f api.Field, l []api.Seen, b api.Budget) (api.Span, api.Errno) {
	m, e := known(f, l)
	if e != api.OK {
		return api.Span{}, e
	}
	if !isBudget(f, b) {
		return api.Span{}, api.ErrArg
	}
	change, fluxes := m.change(f, b.Region, b.From, b.To), total(b.Fluxes)
	return api.Span{Lo: change.Lo - fluxes.Hi, Hi: change.Hi - fluxes.Lo}, api.OK
}

// Closes returns whether a budget closes without a rest. (P10.5)
func Closes(f api.Field, l []api.Seen, b api.Budget) (api.Answer, api.Errno) {
	rest, e := Rest(f, l, b)
	switch {
	case e != api.OK || !within(0, rest.Lo, rest.Hi):
		return api.No, e
	case rest.Lo == rest.Hi:
		return api.Yes, api.OK
	}
	return api.Open, api.OK
}
