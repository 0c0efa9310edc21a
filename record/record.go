// Package record: events as bytes, and bytes as events.
package record

import (
	"canal/api"
	"canal/key"
)

// How many bytes the parts of a record have, but for the key.
const (
	headSize  = 2 // Op and the key's length
	seqSize   = 2
	valueSize = 2
	checkSize = 1
)

// Encode writes an event as a record.
func Encode(e api.Event) (string, api.Errno) {
	errno := refusal(e)
	if errno != api.OK {
		return "", errno
	}
	var b []byte
	b = append(b, e.Op, byte(len(e.Key)))
	b = append(b, e.Key...)
	b = append(b, byte(e.Seq>>8), byte(e.Seq&255))
	if e.Op == api.Put {
		value := uint16(e.Value)
		b = append(b, byte(value>>8), byte(value&255))
	}
	check := sum(b)
	b = append(b, check)
	return string(b), api.OK
}

// refusal tells why an event has no record; OK if it has one.
func refusal(e api.Event) api.Errno {
	if e.Op != api.Put && e.Op != api.Drop {
		return api.ErrOp
	}
	if !key.Valid(e.Key) {
		return api.ErrKey
	}
	if e.Op == api.Drop && e.Value != 0 {
		return api.ErrArg
	}
	return api.OK
}

// Decode reads the records of a log, up to the first place at which none begins.
func Decode(log string) ([]api.Event, int, api.Errno) {
	if len(log) > api.MaxLog {
		return nil, 0, api.ErrLong
	}
	var events []api.Event
	at := 0
	for at < len(log) {
		e, size := first(log[at:])
		if size == 0 {
			return events, at, api.ErrForm
		}
		events = append(events, e)
		at += size
	}
	return events, at, api.OK
}

// first reads the record that s begins with, and tells its size: 0 if none begins there.
func first(s string) (api.Event, int) {
	if len(s) < headSize {
		return api.Event{}, 0
	}
	keyEnd := headSize + int(s[1])
	size := keyEnd + seqSize + checkSize
	if s[0] == api.Put {
		size += valueSize
	}
	if len(s) < size {
		return api.Event{}, 0
	}
	e := api.Event{Op: s[0], Key: s[headSize:keyEnd], Seq: joined(s[keyEnd], s[keyEnd+1])}
	if e.Op == api.Put {
		e.Value = int16(joined(s[keyEnd+seqSize], s[keyEnd+seqSize+1]))
	}
	// A record is what Encode gives, so Encode alone has the rules that these bytes are held to.
	text, errno := Encode(e)
	if errno != api.OK || text != s[:size] {
		return api.Event{}, 0
	}
	return e, size
}

// sum is the check byte behind b.
func sum(b []byte) byte {
	var total byte
	for i := 0; i < len(b); i++ {
		total += b[i]
	}
	return total
}

// joined is the number of two bytes, the greater first.
func joined(high byte, low byte) uint16 { return uint16(high)<<8 | uint16(low) }
