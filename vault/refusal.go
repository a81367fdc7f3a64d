package vault

import (
	"errors"

	"sandglass/api"
)

// What the vault itself refuses by; the layers below have their own numbers.
var (
	errBatch  = errors.New("the epoch is none of the batch")
	errPruned = errors.New("the epoch is pruned")
	errEarly  = errors.New("the epoch's time has not come")
	errLog    = errors.New("the log does not take the record")
)

// number answers which of api's errors a refusal is told as; OK of none.
func number(err error) api.Errno {
	switch {
	case errors.Is(err, errBatch):
		return api.ErrArg
	case errors.Is(err, errPruned):
		return api.ErrPruned
	case errors.Is(err, errEarly):
		return api.ErrEarly
	case errors.Is(err, errLog):
		return api.ErrFull
	}
	return api.OK
}
