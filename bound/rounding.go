package bound

import "isobath/api"

// outward returns the span of the images of both ends under a function that
// does not fall, which is given as rounded down and as rounded up.
func outward(down, up func(int64) int64, a api.Span) api.Span {
	return api.Span{Lo: down(a.Lo), Hi: up(a.Hi)}
}

// divisor divides by a number of at least 1.
type divisor int64

func (d divisor) down(x int64) int64 {
	q := x / int64(d)
	// Go rounds towards 0, which is up below 0.
	if x%int64(d) < 0 {
		q--
	}
	return q
}

func (d divisor) up(x int64) int64 {
	return -d.down(-x)
}

// square undoes squares: it takes the root of a number from 0 to 2^60.
type square struct{}

// down finds the root bit by bit, as a float would not be exact near a square.
func (square) down(x int64) int64 {
	r := int64(0)
	for bit := int64(1) << 30; bit > 0; bit >>= 1 {
		if next := r + bit; next*next <= x {
			r = next
		}
	}
	return r
}

func (s square) up(x int64) int64 {
	r := s.down(x)
	if r*r < x {
		r++
	}
	return r
}
