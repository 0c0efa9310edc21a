package flow

import (
	"canal/api"
	"canal/key"
	"canal/known"
	"canal/pipe"
)

// sorter leaves out the events that do not count.
type sorter struct {
	in   pipe.Pipe
	keys known.Keys
}

// stepSorter lets a sorter take its next item, if what it hands on for it has room.
func (f *Flow) stepSorter(at int) api.Errno {
	s := &f.sorters[at]
	item, waits := s.in.First()
	if !waits {
		return api.ErrIdle
	}
	if item.Barrier {
		return f.passBarrier(at)
	}
	// What does not count is handed on to nobody: it needs no room.
	if !s.keys.Counts(item.Event) {
		s.in.Take()
		return api.OK
	}
	place := f.adderOf(item.Event.Key)
	to := f.pipeBetween(at, place)
	if to.Full() {
		return api.ErrFull
	}
	s.in.Take()
	change, _ := s.keys.Take(item.Event)
	to.Send(pipe.Item{Change: change})
	return api.OK
}

// passBarrier lets a sorter hand on the barrier that is its next item to each adder, or to none.
func (f *Flow) passBarrier(at int) api.Errno {
	for i := 0; i < len(f.adders); i++ {
		to := f.pipeBetween(at, i)
		if to.Full() {
			return api.ErrFull
		}
	}
	f.sorters[at].in.Take()
	for i := 0; i < len(f.adders); i++ {
		to := f.pipeBetween(at, i)
		to.Send(pipe.Item{Barrier: true})
	}
	return api.OK
}

// forget lets a sorter know of no key, with nothing in its pipe.
func (s *sorter) forget() {
	s.in.Clear()
	s.keys = known.Keys{}
}

// pipeBetween is the pipe from a sorter to an adder, by their places.
func (f *Flow) pipeBetween(from int, to int) *pipe.Pipe {
	return &f.adders[to].inlets[from].pipe
}

// adderOf tells the place of the adder of a key's group. There is at least one adder: New saw to it.
func (f *Flow) adderOf(name string) int {
	return int(uint32(key.Group(name)) % uint32(len(f.adders)))
}
