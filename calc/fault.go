package calc

import (
	"strconv"

	"gnomon/api"
)

// fault is what is wrong with a line, and the place of the byte at which that is seen. The reader gives up with it, by panic, and the face recovers it.
type fault struct {
	at    int
	errno api.Errno
}

func (f fault) Error() string {
	return "error " + strconv.Itoa(int(f.errno)) + " at byte " + strconv.Itoa(f.at)
}
