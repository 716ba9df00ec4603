package mooring

import "isobath/api"

// isCode tells whether a number is a code.
func isCode(x int) bool { return within(x, 0, 1<<api.CodeBits-1) }

// checkCodes reports whether a list has only codes, and not too many.
func checkCodes(codes []int) api.Errno {
	if len(codes) > api.MaxCodes {
		return api.ErrMany
	}
	for _, x := range codes {
		if !isCode(x) {
			return api.ErrArg
		}
	}
	return api.OK
}

// distance returns in how many bits two codes differ.
func distance(a, b int) int {
	n := 0
	for bit := range api.CodeBits {
		n += (a ^ b) >> bit & 1
	}
	return n
}

// Spacing returns the least distance of two codes. (P2.6)
func Spacing(codes []int) (int, api.Errno) {
	if e := checkCodes(codes); e != api.OK {
		return 0, e
	}
	if len(codes) < 2 {
		return 0, api.ErrNone
	}
	least := api.CodeBits
	for i, a := range codes {
		for _, b := range codes[:i] {
			least = min(least, distance(a, b))
		}
	}
	return least, api.OK
}

// Answers returns the indexes of the releases that answer. (P2.6)
func Answers(codes []int, heard, wrong int) ([]int, api.Errno) {
	if e := checkCodes(codes); e != api.OK {
		return nil, e
	}
	if !isCode(heard) || !within(wrong, 0, api.CodeBits) {
		return nil, api.ErrRange
	}
	var l []int
	for i, x := range codes {
		if distance(x, heard) <= wrong {
			l = append(l, i)
		}
	}
	return l, api.OK
}
