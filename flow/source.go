package flow

import (
	"canal/api"
	"canal/key"
	"canal/pipe"
)

// stepSource sends barriers, if a checkpoint waits for them, else the next event.
func (f *Flow) stepSource() api.Errno {
	if f.checkpoint.state == triggered {
		return f.sendBarriers()
	}
	if f.sent >= len(f.events) {
		return api.ErrIdle
	}
	event := f.events[f.sent]
	to := &f.sorters[f.sorterOf(event.Key)].in
	if to.Full() {
		return api.ErrFull
	}
	to.Send(pipe.Item{Event: event})
	f.sent++
	return api.OK
}

// sendBarriers sends a barrier to each sorter, or to none.
func (f *Flow) sendBarriers() api.Errno {
	for i := 0; i < len(f.sorters); i++ {
		if f.sorters[i].in.Full() {
			return api.ErrFull
		}
	}
	for i := 0; i < len(f.sorters); i++ {
		f.sorters[i].in.Send(pipe.Item{Barrier: true})
	}
	f.checkpoint.state = flowing
	f.checkpoint.offset = f.sent
	return api.OK
}

// sorterOf tells the place of a key's sorter. There is at least one sorter: New saw to it.
func (f *Flow) sorterOf(name string) int {
	return int(key.Hash(name) % uint32(len(f.sorters)))
}
