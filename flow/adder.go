package flow

import (
	"canal/api"
	"canal/groups"
	"canal/pipe"
)

// inlet is a pipe that leads to an adder.
type inlet struct {
	pipe    pipe.Pipe
	stopped bool
}

// adder counts and adds up by groups.
type adder struct {
	inlets []inlet // one from each sorter, in their order
	table  groups.Table
}

// newInlets gives an empty, open inlet from each sorter.
func newInlets(c api.Config) []inlet {
	var inlets []inlet
	for i := 0; i < c.Width; i++ {
		inlets = append(inlets, inlet{pipe: pipe.New(c.Room)})
	}
	return inlets
}

// stepAdder lets an adder take the next item of its first open pipe that has one.
func (f *Flow) stepAdder(at int) api.Errno {
	a := &f.adders[at]
	for i := 0; i < len(a.inlets); i++ {
		from := &a.inlets[i]
		item, waits := from.pipe.First()
		if from.stopped || !waits {
			continue
		}
		from.pipe.Take()
		if item.Barrier {
			from.stopped = true
			f.layReady(a)
		} else {
			a.table.Add(item.Change)
		}
		return api.OK
	}
	return api.ErrIdle
}

// layReady opens the pipes of an adder if all are stopped, and lays ready what it counted ahead of their barriers.
func (f *Flow) layReady(a *adder) {
	for i := 0; i < len(a.inlets); i++ {
		if !a.inlets[i].stopped {
			return
		}
	}
	for i := 0; i < len(a.inlets); i++ {
		a.inlets[i].stopped = false
	}
	changed := a.table.TakeChanged()
	f.checkpoint.ready.Lay(&changed)
	f.checkpoint.laid++
}

// forget lets an adder know of no group, with nothing in its pipes, and all of them open.
func (a *adder) forget() {
	for i := 0; i < len(a.inlets); i++ {
		a.inlets[i].pipe.Clear()
		a.inlets[i].stopped = false
	}
	a.table = groups.Table{}
}

// waiting tells how many items each pipe of an adder has.
func (a *adder) waiting() []int {
	var numbers []int
	for i := 0; i < len(a.inlets); i++ {
		numbers = append(numbers, a.inlets[i].pipe.Len())
	}
	return numbers
}
