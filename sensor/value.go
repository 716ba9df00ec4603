package sensor

import "isobath/api"

// isFree tells whether a value is that of a sample without any constraint. Each
// other value has causes, whose steps are not 0.
func isFree(v api.Value) bool { return v == (api.Value{}) }

// isBounded tells whether a value has a set that bounds something.
func isBounded(v api.Value) bool { return !isFree(v) && !v.Empty }

// finder returns a function that is told the constraints of a sample, one after
// the other, and returns the value by those that it has been told so far.
func finder() func(b api.Bounded) api.Value {
	lo, hi := api.Bounded{Set: everything()}, api.Bounded{Set: everything()}
	return func(b api.Bounded) api.Value {
		if b.Set.Lo > lo.Set.Lo {
			lo = b
		}
		if b.Set.Hi < hi.Set.Hi {
			hi = b
		}
		v := api.Value{Set: api.Span{Lo: lo.Set.Lo, Hi: hi.Set.Hi}, Lo: lo.By, Hi: hi.By}
		if v.Set.Lo > v.Set.Hi {
			v.Set, v.Empty = api.Span{}, true
		}
		return v
	}
}

// values returns the values of all samples by a chain.
func (x study) values(chain []int) []api.Value {
	var l []api.Value
	for i := range x.samples {
		var v api.Value
		tell := finder()
		for b := range x.constraints(chain, i) {
			v = tell(b)
		}
		l = append(l, v)
	}
	return l
}

// process returns the values of valid samples.
func process(s api.Sensor, l []api.Sample, c []int) []api.Value {
	return begin(s, l, c).values(c)
}

// Process returns the values of all samples. (P6.3)
func Process(s api.Sensor, l []api.Sample, c []int) ([]api.Value, api.Errno) {
	if e := checkAll(s, l, c); e != api.OK {
		return nil, e
	}
	return process(s, l, c), api.OK
}

// above returns whether a value is greater than a limit.
func above(v api.Value, limit int64) api.Answer {
	switch {
	case !isBounded(v):
		return api.Open
	case v.Set.Lo > limit:
		return api.Yes
	case v.Set.Hi <= limit:
		return api.No
	}
	return api.Open
}

// Above returns whether each value is greater than a limit. (P6.4)
func Above(s api.Sensor, l []api.Sample, c []int, limit int64) ([]api.Answer, api.Errno) {
	if e := checkAll(s, l, c); e != api.OK {
		return nil, e
	}
	if limit < -api.MaxValue || limit > api.MaxValue {
		return nil, api.ErrRange
	}
	var answers []api.Answer
	for _, v := range process(s, l, c) {
		answers = append(answers, above(v, limit))
	}
	return answers, api.OK
}

// differ tells whether two values have different sets, whatever their causes.
func differ(v, w api.Value) bool {
	return v.Set != w.Set || v.Empty != w.Empty || isFree(v) != isFree(w)
}

// Changed returns the samples with different sets. (P6.5)
func Changed(s api.Sensor, l []api.Sample, c, d []int) ([]int, api.Errno) {
	if e := checkAll(s, l, c, d); e != api.OK {
		return nil, e
	}
	var changed []int
	before, after := process(s, l, c), process(s, l, d)
	for i := range l {
		if differ(before[i], after[i]) {
			changed = append(changed, i)
		}
	}
	return changed, api.OK
}

// Contradict returns two constraints that exclude each other. (P6.6)
func Contradict(s api.Sensor, l []api.Sample, c []int) (int, api.Cause, api.Cause, api.Errno) {
	if e := checkAll(s, l, c); e != api.OK {
		return 0, api.Cause{}, api.Cause{}, e
	}
	for i, v := range process(s, l, c) {
		if v.Empty {
			return i, v.Lo, v.Hi, api.OK
		}
	}
	return 0, api.Cause{}, api.Cause{}, api.ErrNone
}
