package buffer

import (
	"cmp"
	"slices"

	"isobath/api"
)

// choice is a choice from parcels: their indexes by bits, the lower an index the
// higher its bit, and the sums of their Worth and of their sizes.
type choice struct {
	bits  uint32
	worth int64
	size  int64
}

// bit returns the bit of an index.
func bit(i int) uint32 { return 1 << (api.MaxParcels - 1 - i) }

// with returns the choice from two others that have no parcel in common.
func (c choice) with(d choice) choice {
	return choice{c.bits | d.bits, c.worth + d.worth, c.size + d.size}
}

// indexes returns the indexes of a choice.
func (c choice) indexes() []int {
	var l []int
	for i := range api.MaxParcels {
		if c.bits&bit(i) != 0 {
			l = append(l, i)
		}
	}
	return l
}

// better tells whether a choice comes before another one.
func (c choice) better(d choice) bool {
	switch {
	case c.worth != d.worth:
		return c.worth > d.worth
	case c.size != d.size:
		return c.size < d.size
	}
	// Of choices of the same size none begins another one, as each parcel has a
	// size: so the first index that only one of them has decides.
	return c.bits > d.bits
}

// each calls a function for all choices from some parcels, which are given as
// the choices of each one alone, together with a choice from others.
func each(from []choice, c choice, use func(choice)) {
	if len(from) == 0 {
		use(c)
		return
	}
	each(from[1:], c, use)
	each(from[1:], c.with(from[0]), use)
}

// staircase returns choices from some parcels, by their sizes, each of them
// better than the one before it: the last one that fits is the best that does.
func staircase(from []choice) []choice {
	var all []choice
	each(from, choice{}, func(c choice) { all = append(all, c) })
	slices.SortFunc(all, func(c, d choice) int { return cmp.Compare(c.size, d.size) })
	var steps []choice
	for _, c := range all {
		if len(steps) == 0 || c.better(steps[len(steps)-1]) {
			steps = append(steps, c)
		}
	}
	return steps
}

// highest returns the best choice of a staircase for some bytes. The lowest
// step is the choice of no parcels, which always fits.
func highest(steps []choice, bytes int64) choice {
	return steps[firstIndex(steps, func(c choice) bool { return c.size > bytes })-1]
}

// best returns the best choice from some parcels. For each choice from the one
// half of them, only one from the other half has to be looked at.
func best(from []choice, bytes int64) choice {
	half := len(from) / 2
	steps := staircase(from[half:])
	var found choice
	each(from[:half], choice{}, func(c choice) {
		if c.size > bytes {
			return
		}
		if d := c.with(highest(steps, bytes-c.size)); d.better(found) {
			found = d
		}
	})
	return found
}

// checkParcel reports whether a parcel is valid.
func checkParcel(p api.Parcel) api.Errno {
	if !within(p.Size, 1, api.MaxBytes) || !within(p.Worth, 0, api.MaxWorth) {
		return api.ErrArg
	}
	return api.OK
}

// Best returns the best choice. (P8.6)
func Best(l []api.Parcel, bytes int64) ([]int, int64, api.Errno) {
	if len(l) > api.MaxParcels {
		return nil, 0, api.ErrMany
	}
	var from []choice
	for i, p := range l {
		if e := checkParcel(p); e != api.OK {
			return nil, 0, e
		}
		from = append(from, choice{bit(i), p.Worth, p.Size})
	}
	if !within(bytes, 0, api.MaxBytes) {
		return nil, 0, api.ErrRange
	}
	c := best(from, bytes)
	return c.indexes(), c.worth, api.OK
}
