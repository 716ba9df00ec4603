package sensor

import (
	"iter"
	"slices"

	"isobath/api"
)

// study is samples of a sensor, with what a chain finds without StepRate.
type study struct {
	sensor  api.Sensor
	samples []api.Sample
	alone   []api.Value
}

// begin returns the study of samples by a chain.
func begin(s api.Sensor, l []api.Sample, chain []int) study {
	x := study{sensor: s, samples: l}
	x.alone = x.values(slices.DeleteFunc(slices.Clone(chain), func(step int) bool { return step == api.StepRate }))
	return x
}

// steps returns for each step how it yields its constraints of a sample.
func (x study) steps() map[int]func(i int) iter.Seq[api.Bounded] {
	return map[int]func(i int) iter.Seq[api.Bounded]{
		api.StepRaw:     x.raw,
		api.StepClimate: x.climate,
		api.StepNear:    x.near,
		api.StepRate:    x.rate,
	}
}

func (x study) raw(i int) iter.Seq[api.Bounded] {
	return func(yield func(api.Bounded) bool) {
		sample := x.samples[i]
		o, e := offset(x.sensor, sample.At)
		if e != api.OK {
			return
		}
		yield(api.Bounded{
			By:  api.Cause{Step: api.StepRaw},
			Set: api.Span{Lo: sample.Raw.Lo - o.Hi, Hi: sample.Raw.Hi - o.Lo},
		})
	}
}

func (x study) climate(i int) iter.Seq[api.Bounded] {
	return func(yield func(api.Bounded) bool) {
		yield(api.Bounded{By: api.Cause{Step: api.StepClimate}, Set: x.samples[i].Climate})
	}
}

func (x study) near(i int) iter.Seq[api.Bounded] {
	return func(yield func(api.Bounded) bool) {
		for k, a := range x.samples[i].Near {
			if !yield(api.Bounded{By: api.Cause{Step: api.StepNear, Of: k}, Set: a}) {
				return
			}
		}
	}
}

func (x study) rate(i int) iter.Seq[api.Bounded] {
	return func(yield func(api.Bounded) bool) {
		for j, v := range x.alone {
			if j == i || !isBounded(v) {
				continue
			}
			set := grown(v.Set, x.sensor.Change, x.samples[i].At, x.samples[j].At)
			if !yield(api.Bounded{By: api.Cause{Step: api.StepRate, Of: j}, Set: set}) {
				return
			}
		}
	}
}

// constraints yields those of a sample by a chain, in the order of its steps.
func (x study) constraints(chain []int, i int) iter.Seq[api.Bounded] {
	return func(yield func(api.Bounded) bool) {
		steps := x.steps()
		for _, step := range chain {
			for b := range steps[step](i) {
				if !yield(b) {
					return
				}
			}
		}
	}
}

// Constraints returns the constraints of a sample. (P6.3)
func Constraints(s api.Sensor, l []api.Sample, c []int, i int) ([]api.Bounded, api.Errno) {
	if e := checkAll(s, l, c); e != api.OK {
		return nil, e
	}
	if i < 0 || i >= len(l) {
		return nil, api.ErrRange
	}
	return slices.Collect(begin(s, l, c).constraints(c, i)), api.OK
}
