package flow

import "canal/api"

// Fail lets all tasks forget: they go on from the last checkpoint that was committed.
func (f *Flow) Fail() {
	if f.checkpoint.state == complete {
		f.commit()
	}
	f.checkpoint = checkpoint{}
	f.forget()
	f.recall()
	f.sent = f.offset
}

// forget lets no sorter and no adder know of anything, and empties and opens all pipes.
func (f *Flow) forget() {
	for i := 0; i < len(f.sorters); i++ {
		f.sorters[i].forget()
	}
	for i := 0; i < len(f.adders); i++ {
		f.adders[i].forget()
	}
}

// recall lets the sorters and adders know again what they knew at the barriers of the last checkpoint that was committed.
func (f *Flow) recall() {
	// That hangs on the events ahead of those barriers alone, and the job has these: nothing else is kept for it.
	for i := 0; i < f.offset && i < len(f.events); i++ {
		f.count(f.events[i])
	}
	for i := 0; i < len(f.adders); i++ {
		// What the view shows already need not be laid ready again.
		f.adders[i].table.TakeChanged()
	}
}

// count lets an event's sorter and adder know of it, past the pipes.
func (f *Flow) count(event api.Event) {
	from := f.sorterOf(event.Key)
	change, counts := f.sorters[from].keys.Take(event)
	if !counts {
		return
	}
	to := f.adderOf(event.Key)
	f.adders[to].table.Add(change)
}
