package clock

import (
	"isobath/api"
	"isobath/bound"
)

// perRate is how many microseconds a rate of 1 takes to change an offset by one.
const perRate = 1000000000

// isRate tells whether a number is a rate.
func isRate(rate int64) bool { return within(rate, 0, api.MaxClockRate) }

// growth returns by how much, rounded up, an offset changes at most between two
// readings with a difference of at least 0.
func growth(rate, difference int64) int64 {
	// The product of both may be beyond an int64.
	whole, rest := difference/perRate, difference%perRate
	return rate*whole + (rate*rest+perRate-1)/perRate
}

// offset is an offset with its reading.
type offset struct {
	api.Span
	reading int64
}

// at returns what an offset tells of that at another reading.
func (o offset) at(t, rate int64) api.Span {
	return grown(o.Span, growth(rate, max(t-o.reading, o.reading-t)))
}

// isDelay tells whether a span is that of a delay.
func isDelay(a api.Span) bool { return bound.Check(a) == api.OK && a.Lo >= 0 }

// CheckExchange reports whether an exchange is valid. (P5.1)
func CheckExchange(x api.Exchange) api.Errno {
	if !isTime(x.Sent) || !isTime(x.Heard) || !isTime(x.Answered) || !isTime(x.Back) {
		return api.ErrArg
	}
	if x.Sent > x.Back || x.Heard > x.Answered {
		return api.ErrArg
	}
	if !isDelay(x.Forth) || !isDelay(x.Home) {
		return api.ErrArg
	}
	return api.OK
}

// there returns the offset by the first message of an exchange, when it was
// sent.
func there(x api.Exchange) offset {
	ahead := x.Heard - x.Sent
	return offset{api.Span{Lo: ahead - x.Forth.Hi, Hi: ahead - x.Forth.Lo}, x.Sent}
}

// back returns the offset by the answer of an exchange, when it came back.
func back(x api.Exchange) offset {
	ahead := x.Answered - x.Back
	return offset{api.Span{Lo: ahead + x.Home.Lo, Hi: ahead + x.Home.Hi}, x.Back}
}

// Offset returns the offset by an exchange. (P5.1)
func Offset(x api.Exchange, rate int64) (api.Span, api.Errno) {
	if e := CheckExchange(x); e != api.OK {
		return api.Span{}, e
	}
	if !isRate(rate) {
		return api.Span{}, api.ErrRange
	}
	o := meet(there(x).at(x.Back, rate), back(x).at(x.Back, rate))
	if !exists(o) {
		return api.Span{}, api.ErrNone
	}
	return o, api.OK
}
