// Package known: what is known of keys, and which events count.
package known

import (
	"canal/api"
	"canal/groups"
	"canal/key"
)

// entry is what is known of a key that had an event that counted.
type entry struct {
	name  string
	seq   uint16 // of the last event that counted
	live  int    // 1 if the key is there, else 0
	value int16  // 0 if the key is not there
}

// Keys is what is known of all keys.
type Keys struct {
	list []entry
}

// Counts tells whether e counts. It takes nothing in: who asks may yet have to let e wait.
func (k *Keys) Counts(e api.Event) bool {
	at := k.place(e.Key)
	return at == len(k.list) || newer(e.Seq, k.list[at].seq)
}

// Take tells whether e counts; if it does, it is known from then on, and the answer is the change of its group.
func (k *Keys) Take(e api.Event) (groups.Change, bool) {
	if !k.Counts(e) {
		return groups.Change{}, false
	}
	at := k.place(e.Key)
	if at == len(k.list) {
		k.list = append(k.list, entry{name: e.Key})
	}
	old := k.list[at]
	now := made(e)
	k.list[at] = now
	return groups.Change{Group: key.Group(e.Key), Live: now.live - old.live, Sum: now.value - old.value}, true
}

// place tells where the key stands in the list; the list's length if it never had an event that counted.
func (k *Keys) place(name string) int {
	at := 0
	for at < len(k.list) && k.list[at].name != name {
		at++
	}
	return at
}

// made is what is known of a key behind an event that counts, whatever was known ahead of it.
func made(e api.Event) entry {
	if e.Op == api.Put {
		return entry{name: e.Key, seq: e.Seq, live: 1, value: e.Value}
	}
	return entry{name: e.Key, seq: e.Seq}
}

// newer tells whether Seq a is newer than b, round the wrap at 65535.
func newer(a uint16, b uint16) bool { return int16(a-b) > 0 }
