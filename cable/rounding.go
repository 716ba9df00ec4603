package cable

import "isobath/api"

// fraction is n / d, for an n of at least 0 and a d of at least 1.
type fraction struct {
	n, d int64
}

func (f fraction) down() int64 { return f.n / f.d }

func (f fraction) up() int64 { return (f.n + f.d - 1) / f.d }

// outward returns the span from one fraction to another, rounded outward.
func outward(lo, hi fraction) api.Span { return api.Span{Lo: lo.down(), Hi: hi.up()} }
