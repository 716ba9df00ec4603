package bound_test

import (
	"math"
	"math/big"

	"isobath/api"
)

const most = api.MaxValue

// two is a function of two spans.
type two = func(a, b api.Span) (api.Span, api.Errno)

// span returns a span.
func span(lo, hi int64) api.Span { return api.Span{Lo: lo, Hi: hi} }

// spans returns all spans with ends from a list, also those that are not valid.
func spans(ends ...int64) []api.Span {
	var l []api.Span
	for _, lo := range ends {
		for _, hi := range ends {
			l = append(l, span(lo, hi))
		}
	}
	return l
}

// validSpans returns all valid spans with ends from lo to hi.
func validSpans(lo, hi int64) []api.Span {
	var l []api.Span
	for x := lo; x <= hi; x++ {
		for y := x; y <= hi; y++ {
			l = append(l, span(x, y))
		}
	}
	return l
}

// wild returns spans at and beyond the limits.
func wild() []api.Span {
	return spans(math.MinInt64, -most-1, -most, 1-most, -32769, -3, -1, 0, 1, 2, 32768, most, most+1, math.MaxInt64)
}

// valid tells whether a span is valid, as the chapter defines it.
func valid(a api.Span) bool {
	return a.Lo <= a.Hi && -most <= a.Lo && a.Lo <= most && -most <= a.Hi && a.Hi <= most
}

// contains tells whether all numbers of b are in a.
func contains(a, b api.Span) bool { return a.Lo <= b.Lo && b.Hi <= a.Hi }

// whole returns a whole number as a fraction.
func whole(x int64) *big.Rat { return new(big.Rat).SetInt64(x) }

func plus(x, y *big.Rat) *big.Rat  { return new(big.Rat).Add(x, y) }
func minus(x, y *big.Rat) *big.Rat { return new(big.Rat).Sub(x, y) }
func times(x, y *big.Rat) *big.Rat { return new(big.Rat).Mul(x, y) }
func over(x, y *big.Rat) *big.Rat  { return new(big.Rat).Quo(x, y) }

// floor rounds down: the quotient of big.Int's Div is, for a divisor above 0.
func floor(x *big.Rat) *big.Int { return new(big.Int).Div(x.Num(), x.Denom()) }

// ceil rounds up.
func ceil(x *big.Rat) *big.Int {
	y := floor(new(big.Rat).Neg(x))
	return y.Neg(y)
}

// outward returns the span from the least to the greatest of some fractions,
// rounded outward, or ErrOver.
func outward(l ...*big.Rat) (api.Span, api.Errno) {
	lo, hi := l[0], l[0]
	for _, x := range l {
		if x.Cmp(lo) < 0 {
			lo = x
		}
		if x.Cmp(hi) > 0 {
			hi = x
		}
	}
	limit := big.NewInt(most)
	if floor(lo).CmpAbs(limit) > 0 || ceil(hi).CmpAbs(limit) > 0 {
		return api.Span{}, api.ErrOver
	}
	return span(floor(lo).Int64(), ceil(hi).Int64()), api.OK
}

// rootOf returns the roots of two whole numbers, rounded outward.
func rootOf(lo, hi int64) api.Span {
	l := new(big.Int).Sqrt(big.NewInt(lo)).Int64()
	h := new(big.Int).Sqrt(big.NewInt(hi)).Int64()
	if h*h != hi {
		h++
	}
	return span(l, h)
}
