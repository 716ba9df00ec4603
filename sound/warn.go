package sound

import (
	"isobath/api"
	"isobath/bound"
)

// isCoast tells whether a coast is valid.
func isCoast(c api.Coast) bool {
	return bound.CheckBox(c.At) == api.OK && within(c.Need, 0, api.MaxNeed)
}

// checkWarn returns the error of what Warn is told.
func checkWarn(n api.Net, source api.Box, origin api.Span, at int64, l []api.Coast) api.Errno {
	if e := CheckNet(n); e != api.OK {
		return e
	}
	if e := bound.CheckBox(source); e != api.OK {
		return e
	}
	if !isTimeSpan(origin) {
		return api.ErrArg
	}
	if !isInstant(at) {
		return api.ErrRange
	}
	if len(l) > api.MaxGauges {
		return api.ErrMany
	}
	for _, c := range l {
		if !isCoast(c) {
			return api.ErrArg
		}
	}
	return api.OK
}

// Warn returns when a wave arrives at coasts, and whether an alarm is in time. (P7.8)
func Warn(n api.Net, source api.Box, origin api.Span, at int64, l []api.Coast) ([]api.Warning, api.Errno) {
	if e := checkWarn(n, source, origin, at, l); e != api.OK {
		return nil, e
	}
	var warnings []api.Warning
	for _, c := range l {
		t := travel(n.Speed, source, c.At)
		arrival := api.Span{Lo: origin.Lo + t.Lo, Hi: origin.Hi + t.Hi}
		warnings = append(warnings, api.Warning{Arrival: arrival, InTime: atLeast(arrival, at+perSecond*c.Need)})
	}
	return warnings, api.OK
}
