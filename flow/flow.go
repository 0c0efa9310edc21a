// Package flow: the tasks of a job, the pipes between them, and its checkpoints.
package flow

import (
	"canal/api"
	"canal/groups"
	"canal/pipe"
	"canal/record"
)

// Flow is a log that flows through its tasks into the view.
type Flow struct {
	events     []api.Event
	sent       int // how many of the events the source has sent
	sorters    []sorter
	adders     []adder
	checkpoint checkpoint
	last       int // the number of the last checkpoint that was triggered
	view       groups.Table
	offset     int // how many events are counted in the view
}

// New makes a flow that is ahead of the first event of a log.
func New(c api.Config, log string) (Flow, api.Errno) {
	events, _, errno := record.Decode(log)
	// A log with a place at which no record begins is no fault here: the events ahead of it flow.
	if errno == api.ErrLong {
		return Flow{}, errno
	}
	if c.Width < 1 || c.Width > api.MaxWidth || c.Room < 1 || c.Room > api.MaxRoom {
		return Flow{}, api.ErrConfig
	}
	f := Flow{events: events}
	for i := 0; i < c.Width; i++ {
		f.sorters = append(f.sorters, sorter{in: pipe.New(c.Room)})
		f.adders = append(f.adders, adder{inlets: newInlets(c)})
	}
	return f, api.OK
}

// What a task is.
const (
	noTask = iota
	sourceTask
	sorterTask
	adderTask
	keeperTask
)

// find tells what the task with a number is and, of a sorter or an adder, its place among its kind.
func (f *Flow) find(task int) (int, int) {
	width := len(f.sorters)
	switch {
	case task < 0 || task > 2*width+1:
		return noTask, 0
	case task == 0:
		return sourceTask, 0
	case task <= width:
		return sorterTask, task - 1
	case task <= 2*width:
		return adderTask, task - width - 1
	}
	return keeperTask, 0
}

// Step lets a task do one thing.
func (f *Flow) Step(task int) api.Errno {
	kind, at := f.find(task)
	switch kind {
	case sourceTask:
		return f.stepSource()
	case sorterTask:
		return f.stepSorter(at)
	case adderTask:
		return f.stepAdder(at)
	case keeperTask:
		return f.stepKeeper()
	}
	return api.ErrTask
}

// Queue tells how much waits for a task, in a new list.
func (f *Flow) Queue(task int) ([]int, api.Errno) {
	kind, at := f.find(task)
	switch kind {
	case sourceTask:
		return []int{len(f.events) - f.sent}, api.OK
	case sorterTask:
		return []int{f.sorters[at].in.Len()}, api.OK
	case adderTask:
		return f.adders[at].waiting(), api.OK
	case keeperTask:
		return []int{f.keeperWork()}, api.OK
	}
	return nil, api.ErrTask
}

// Offset tells how many events are counted in the view.
func (f *Flow) Offset() int { return f.offset }

// View is the text of groups of the view.
func (f *Flow) View() string { return f.view.Text() }
