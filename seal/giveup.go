package seal

import (
	"sandglass/api"
)

// attempt does the work and answers what it makes; the error, and nothing beside it, where the work gives up.
func attempt[T any](work func() T) (made T, err api.Errno) {
	defer func() {
		if why := recover(); why != nil {
			// The work gives up by errors alone.
			err = why.(api.Errno)
		}
	}()
	return work(), api.OK
}

// demand gives up by the error, unless it holds.
func demand(holds bool, err api.Errno) {
	if !holds {
		panic(err)
	}
}

// must answers what a call below answered, and gives up by its error, if it told one.
func must[T any](answer T, err api.Errno) T {
	demand(err == api.OK, err)
	return answer
}
