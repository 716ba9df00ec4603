package buffer

// firstIndex returns the first index of a list at which a condition holds, or
// the length of the list if there is none. From one element for which it holds
// on, it has to hold for all.
func firstIndex[T any](l []T, holds func(T) bool) int {
	from, to := 0, len(l)
	for from < to {
		middle := from + (to-from)/2
		if holds(l[middle]) {
			to = middle
		} else {
			from = middle + 1
		}
	}
	return from
}
