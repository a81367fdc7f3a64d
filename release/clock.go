package release

// clock is what a gate looks at.
type clock interface {
	// now answers what it shows.
	now() int
	// passed answers whether it reads that time, or more.
	passed(time int) bool
}

// still is a clock that has read nothing since its beginning, or since a crash. It shows 0, but that is no reading: it has not passed even a time of 0.
type still struct{}

func (still) now() int        { return 0 }
func (still) passed(int) bool { return false }

// reading is a clock that shows what it read last.
type reading int

func (r reading) now() int             { return int(r) }
func (r reading) passed(time int) bool { return int(r) >= time }
