package track

import (
	"testing"

	"hodoscope/api"
)

// TestGuarded is P0.1: what cannot happen would be an error, not a panic. No call of an exported function can show it.
func TestGuarded(t *testing.T) {
	var none []int
	for _, x := range []struct {
		work func() (int, api.Errno)
		n    int
		e    api.Errno
	}{
		{func() (int, api.Errno) { return sure(3, api.OK), api.OK }, 3, api.OK},
		{func() (int, api.Errno) { return 0, api.ErrNone }, 0, api.ErrNone},
		{func() (int, api.Errno) { return sure(3, api.ErrShape), api.OK }, 0, api.ErrShape},
		{func() (int, api.Errno) { return none[1], api.OK }, 0, api.ErrArg},
	} {
		if n, e := guarded(x.work); n != x.n || e != x.e {
			t.Error(n, e, x.n, x.e)
		}
	}
}
