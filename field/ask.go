package field

import (
	"isobath/api"
	"isobath/bound"
)

// asker answers a question, with a stack of answers.
type asker struct {
	field api.Field
	sets  table
	stack []api.Answer
}

// isPart tells whether a part of a question is valid. Its limit is checked whatever
// its kind; spots and a region that its kind does not use may have any value.
func isPart(f api.Field, p api.Part) bool {
	if !within(p.Limit, -api.MaxValue, api.MaxValue) {
		return false
	}
	switch p.Kind {
	case api.AskAbove:
		return isSpot(f, p.A)
	case api.AskMore:
		return isSpot(f, p.A) && isSpot(f, p.B)
	case api.AskRegion:
		return isRegion(f, p.Region) && isMoment(f, p.A.Moment)
	}
	return within(p.Kind, api.AskNot, api.AskAny)
}

// put adds an answer.
func (a *asker) put(x api.Answer) { a.stack = append(a.stack, x) }

// take removes the last n answers, and returns them. The rest has no capacity
// behind it, so that what is added later does not overwrite what was taken.
func (a *asker) take(n int) []api.Answer {
	rest := len(a.stack) - n
	if rest < 0 {
		panic(api.ErrRule)
	}
	last := a.stack[rest:]
	a.stack = a.stack[:rest:rest]
	return last
}

// greater adds whether a value in a span is greater than a limit.
func (a *asker) greater(s api.Span, limit int64) {
	x, _ := bound.Less(api.Span{Lo: limit, Hi: limit}, s)
	a.put(x)
}

// set returns the set of a spot.
func (a *asker) set(s api.Spot) api.Span { return a.sets.of[number(a.field, s)] }

func (a *asker) above(p api.Part) { a.greater(a.set(p.A), p.Limit) }

func (a *asker) more(p api.Part) {
	a.greater(difference(a.set(p.A), a.set(p.B), distance(a.field, p.A, p.B)), p.Limit)
}

func (a *asker) region(p api.Part) {
	a.greater(a.sets.content(a.field, p.Region, p.A.Moment), p.Limit)
}

func (a *asker) not(api.Part) {
	x, _ := bound.Not(a.take(1)[0])
	a.put(x)
}

func (a *asker) both(api.Part) {
	x, _ := bound.All(a.take(2))
	a.put(x)
}

func (a *asker) either(api.Part) {
	x, _ := bound.Any(a.take(2))
	a.put(x)
}

// answer returns the answer to a question with valid parts. That there are too
// few or too many answers for one ends it from within the parts.
func (a *asker) answer(q []api.Part) (x api.Answer, e api.Errno) {
	defer func() {
		if recover() != nil {
			x, e = api.No, api.ErrRule
		}
	}()
	parts := [...]func(api.Part){
		api.AskAbove:  a.above,
		api.AskMore:   a.more,
		api.AskRegion: a.region,
		api.AskNot:    a.not,
		api.AskAll:    a.both,
		api.AskAny:    a.either,
	}
	for _, p := range q {
		parts[p.Kind](p)
	}
	x = a.take(1)[0]
	if len(a.stack) > 0 {
		panic(api.ErrRule)
	}
	return x, api.OK
}

// Ask returns the answer to a question. (P10.6)
func Ask(f api.Field, l []api.Seen, q []api.Part) (api.Answer, api.Errno) {
	t, e := known(f, l)
	if e != api.OK {
		return api.No, e
	}
	if len(q) > api.MaxQuestions {
		return api.No, api.ErrMany
	}
	if !all(q, func(p api.Part) bool { return isPart(f, p) }) {
		return api.No, api.ErrArg
	}
	a := asker{field: f, sets: t}
	return a.answer(q)
}
