// Package pipe: items that wait between two tasks, in their order.
package pipe

import (
	"canal/api"
	"canal/groups"
)

// Item is a barrier or, if it is none, an event (behind the source) or a change (behind a sorter).
type Item struct {
	Barrier bool
	Event   api.Event
	Change  groups.Change
}

// Pipe hands on what it was given in its order.
type Pipe struct {
	room  int
	items []Item
}

// New gives an empty pipe with room for so many items.
func New(room int) Pipe { return Pipe{room: room} }

// Len tells how many items wait.
func (p *Pipe) Len() int { return len(p.items) }

// Full tells whether there is no room for one more item.
func (p *Pipe) Full() bool { return len(p.items) >= p.room }

// Send lays an item behind the others. The sender sees to it that the pipe is not full: often other pipes must have room too, ahead of the first Send.
func (p *Pipe) Send(item Item) { p.items = append(p.items, item) }

// First gives the item that is next, and leaves it there; false, if none is.
func (p *Pipe) First() (Item, bool) {
	if len(p.items) == 0 {
		return Item{}, false
	}
	return p.items[0], true
}

// Take takes away the item that is next, if one is.
func (p *Pipe) Take() {
	if len(p.items) == 0 {
		return
	}
	// The items move up, so that no more memory is kept than the room needs.
	for i := 1; i < len(p.items); i++ {
		p.items[i-1] = p.items[i]
	}
	p.items = p.items[:len(p.items)-1]
}

// Clear takes away all items.
func (p *Pipe) Clear() { p.items = nil }
