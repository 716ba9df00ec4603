package sound

import (
	"isobath/api"
	"isobath/bound"
)

// isRule tells whether a rule is valid.
func isRule(r api.Rule) bool {
	return within(r.Height, 1, api.MaxValue) && within(r.Run, 1, api.MaxTrack) && within(r.Gauges, 1, api.MaxGauges)
}

// checkGauges returns the error of gauges and a rule.
func checkGauges(l []api.Gauge, r api.Rule) api.Errno {
	if !within(len(l), 1, api.MaxGauges) {
		return api.ErrMany
	}
	for _, g := range l {
		if len(g.Level) > api.MaxTrack {
			return api.ErrMany
		}
	}
	for _, g := range l {
		if len(g.Level) != len(l[0].Level) {
			return api.ErrEqual
		}
	}
	for _, g := range l {
		for _, a := range g.Level {
			if e := bound.Check(a); e != api.OK {
				return e
			}
		}
	}
	if !isRule(r) {
		return api.ErrArg
	}
	return api.OK
}

// high returns whether a level is high, above or below 0.
func high(a api.Span, height int64) api.Answer {
	below := api.Span{Lo: -a.Hi, Hi: -a.Lo}
	return either(atLeast(a, height), atLeast(below, height))
}

// either returns any of two answers.
func either(a, b api.Answer) api.Answer {
	x, _ := bound.Any([]api.Answer{a, b})
	return x
}

// risen returns for each of some gauges whether it has risen by each sample.
func risen(r api.Rule, gauges ...api.Gauge) [][]api.Answer {
	var l [][]api.Answer
	for _, g := range gauges {
		var highs, by []api.Answer
		has := api.No
		for j, a := range g.Level {
			highs = append(highs, high(a, r.Height))
			if from := j + 1 - r.Run; from >= 0 {
				all, _ := bound.All(highs[from:])
				has = either(has, all)
			}
			by = append(by, has)
		}
		l = append(l, by)
	}
	return l
}

// alarm returns whether the alarm is raised by a sample, by what has risen.
func alarm(l [][]api.Answer, gauges, k int) api.Answer {
	certain, possible := 0, 0
	for _, by := range l {
		if by[k] == api.Yes {
			certain++
		}
		if by[k] != api.No {
			possible++
		}
	}
	switch {
	case certain >= gauges:
		return api.Yes
	case possible < gauges:
		return api.No
	}
	return api.Open
}

// Raised returns whether the alarm is raised by a sample. (P7.7)
func Raised(l []api.Gauge, r api.Rule, k int) (api.Answer, api.Errno) {
	if e := checkGauges(l, r); e != api.OK {
		return api.No, e
	}
	if !within(k, 0, len(l[0].Level)-1) {
		return api.No, api.ErrRange
	}
	return alarm(risen(r, l...), r.Gauges, k), api.OK
}

// First returns by which samples the alarm is raised for certain, and may be raised. (P7.7)
func First(l []api.Gauge, r api.Rule) (int, int, api.Errno) {
	if e := checkGauges(l, r); e != api.OK {
		return 0, 0, e
	}
	has := risen(r, l...)
	// What may be raised stays so: the first such sample is behind the last No.
	possible := 0
	for k := range l[0].Level {
		switch alarm(has, r.Gauges, k) {
		case api.Yes:
			return k, possible, api.OK
		case api.No:
			possible = k + 1
		}
	}
	return 0, 0, api.ErrNone
}
