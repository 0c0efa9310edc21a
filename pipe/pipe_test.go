package pipe

import (
	"testing"

	"canal/api"
	"canal/groups"
)

func item(n int) Item {
	return Item{Barrier: n%3 == 0, Event: api.Event{Op: api.Put, Key: "a", Seq: uint16(n)}, Change: groups.Change{Group: 'a', Live: n}}
}

func checkPipe(t *testing.T, p *Pipe, room int, want []Item) {
	t.Helper()
	if p.Len() != len(want) || p.Full() != (len(want) == room) {
		t.Errorf("Len() = %d, Full() = %v, want %d of %d", p.Len(), p.Full(), len(want), room)
	}
	first, waits := p.First()
	if waits != (len(want) > 0) || waits && first != want[0] || !waits && first != (Item{}) {
		t.Errorf("First() = %+v, %v, want %+v", first, waits, want)
	}
}

// Items come out in their order, at all rooms and however they are sent and taken.
func TestOrder(t *testing.T) {
	for room := 1; room <= api.MaxRoom; room++ {
		p := New(room)
		var want []Item
		checkPipe(t, &p, room, want)
		for n := range 500 {
			for !p.Full() && (n*n+len(want))%5 != 0 {
				p.Send(item(n))
				want = append(want, item(n))
				checkPipe(t, &p, room, want)
			}
			if len(want) > 0 && n%4 != 1 {
				p.Take()
				want = want[1:]
				checkPipe(t, &p, room, want)
			}
		}
	}
}

func TestTakeOfNothing(t *testing.T) {
	p := New(2)
	p.Take()
	checkPipe(t, &p, 2, nil)
	p.Send(item(1))
	p.Take()
	p.Take()
	checkPipe(t, &p, 2, nil)
	p.Send(item(2))
	checkPipe(t, &p, 2, []Item{item(2)})
}

// A pipe that was cleared has all its room again, and gives nothing of what was in it.
func TestClear(t *testing.T) {
	for room := 1; room <= api.MaxRoom; room++ {
		p := New(room)
		p.Clear()
		checkPipe(t, &p, room, nil)
		for sent := range room + 1 {
			for n := range sent {
				p.Send(item(n))
			}
			p.Clear()
			checkPipe(t, &p, room, nil)
			p.Clear()
			p.Send(item(7))
			checkPipe(t, &p, room, []Item{item(7)})
			p.Take()
			checkPipe(t, &p, room, nil)
		}
	}
}
