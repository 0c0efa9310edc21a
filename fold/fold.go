// Package fold: what the first events of a log make.
package fold

import (
	"canal/api"
	"canal/groups"
	"canal/known"
	"canal/record"
)

// Fold gives the text of groups that the first n events of a log make.
func Fold(log string, n int) (string, api.Errno) {
	events, _, errno := record.Decode(log)
	// A log with a place at which no record begins is no fault here: the events ahead of it are there.
	if errno == api.ErrLong {
		return "", errno
	}
	if n < 0 || n > len(events) {
		return "", api.ErrArg
	}
	return text(events[:n]), api.OK
}

// text is the text of groups that events make, one after the other.
func text(events []api.Event) string {
	var keys known.Keys
	var table groups.Table
	for i := 0; i < len(events); i++ {
		change, counts := keys.Take(events[i])
		if counts {
			table.Add(change)
		}
	}
	return table.Text()
}
