package mooring

import "isobath/api"

// rounding makes a span of two numbers, each rounded in its own way.
type rounding struct {
	down, up func(int64) int64
}

func (r rounding) outward(lo, hi int64) api.Span {
	return api.Span{Lo: r.down(lo), Hi: r.up(hi)}
}

// over divides numbers of at least 0: the lower one by s, the upper one by t.
func over(s, t int64) rounding {
	return rounding{
		down: func(x int64) int64 { return x / s },
		up:   func(x int64) int64 { return (x + t - 1) / t },
	}
}
