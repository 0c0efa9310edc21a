package flow

import (
	"canal/api"
	"canal/groups"
)

// How far a checkpoint is.
const (
	noCheckpoint = iota // none is under way
	triggered           // the source has not sent its barriers
	flowing             // the source has sent them
	complete
)

// checkpoint is the one that is under way.
type checkpoint struct {
	state  int
	offset int          // how many events are ahead of its barriers
	laid   int          // how many adders have laid ready
	ready  groups.Table // what is laid ready for its commit
}

// Trigger lets a checkpoint be under way, and tells its number.
func (f *Flow) Trigger() (int, api.Errno) {
	if f.checkpoint.state != noCheckpoint {
		return 0, api.ErrBusy
	}
	f.checkpoint.state = triggered
	f.last++
	return f.last, api.OK
}

// keeperWork is 1 if there is a checkpoint to complete or to commit, else 0.
func (f *Flow) keeperWork() int {
	// An adder lays ready only behind a barrier from each sorter, and a sorter sends one only behind the source's: when all adders have, all tasks have done their part.
	if f.checkpoint.state >= flowing && f.checkpoint.laid >= len(f.adders) {
		return 1
	}
	return 0
}

// stepKeeper completes the checkpoint that is under way or, a step later, commits it.
func (f *Flow) stepKeeper() api.Errno {
	if f.keeperWork() == 0 {
		return api.ErrIdle
	}
	if f.checkpoint.state == complete {
		f.commit()
	} else {
		f.checkpoint.state = complete
	}
	return api.OK
}

// commit shows what was laid ready; no checkpoint is under way any more.
func (f *Flow) commit() {
	f.view.Lay(&f.checkpoint.ready)
	f.offset = f.checkpoint.offset
	f.checkpoint = checkpoint{}
}
