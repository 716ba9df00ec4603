package house

import (
	"errors"
	"strconv"

	"isobath/api"
)

// failure is an error code as an error.
type failure struct{ code api.Errno }

// Error returns the text of an error.
func (f failure) Error() string { return "error " + strconv.Itoa(int(f.code)) }

// failed returns the error with a code; there is none for OK.
func failed(code api.Errno) error {
	if code == api.OK {
		return nil
	}
	return failure{code}
}

// codeOf returns the code of an error.
func codeOf(err error) api.Errno {
	var f failure
	if errors.As(err, &f) {
		return f.code
	}
	return api.OK
}
