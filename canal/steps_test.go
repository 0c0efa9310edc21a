package canal_test

import (
	"fmt"
	"testing"

	"canal/api"
	"canal/canal"
)

const (
	ok   = api.OK
	idle = api.ErrIdle
	full = api.ErrFull
)

// keysOf gives so many keys of a group that go to a sorter.
func keysOf(group string, sorter int, width int, count int) []string {
	var keys []string
	for n := 0; len(keys) < count; n++ {
		k := fmt.Sprintf("%s%d", group, n)
		if sorterOf(k, width) == sorter {
			keys = append(keys, k)
		}
	}
	return keys
}

func TestP7ToP10Example(t *testing.T) {
	j := newJob(t, 1, 1, exampleLog())
	checkQueue(t, j, 0, 6)
	checkSteps(t, j, 1, idle)
	checkSteps(t, j, 2, idle)
	checkSteps(t, j, 3, idle)
	checkSteps(t, j, 4, api.ErrTask)
	checkSteps(t, j, 0, ok, full)
	checkSteps(t, j, 1, ok)
	checkSteps(t, j, 0, ok)
	checkSteps(t, j, 1, full)
	checkSteps(t, j, 2, ok)
	checkSteps(t, j, 1, ok)
	checkShown(t, j, 0, "")
	checkTrigger(t, j, 1, ok)
	checkTrigger(t, j, 0, api.ErrBusy)
	checkSteps(t, j, 0, ok)
	checkSteps(t, j, 1, full)
	checkSteps(t, j, 2, ok)
	checkSteps(t, j, 1, ok)
	checkSteps(t, j, 3, idle)
	checkSteps(t, j, 2, ok)
	checkSteps(t, j, 3, ok, ok)
	checkShown(t, j, 2, "a 2 12 2;")
}

// Each event goes to the sorter of its key, and its change to the adder of its group.
func TestP7AndP8Ways(t *testing.T) {
	for width := 1; width <= 4; width++ {
		for _, k := range append(someKeys, "z", "zz", "c", "d", "e", "ba", "\u0101", "\U0010FFFF") {
			j := newJob(t, width, 1, logOf(put(k, 1, 5)))
			checkSteps(t, j, 0, ok, idle)
			for s := 1; s <= width; s++ {
				if s == sorterOf(k, width) {
					checkQueue(t, j, s, 1)
					checkSteps(t, j, s, ok)
				} else {
					checkQueue(t, j, s, 0)
				}
				checkSteps(t, j, s, idle)
			}
			for a := width + 1; a <= 2*width; a++ {
				want := make([]int, width)
				if a == adderOf(k, width) {
					want[sorterOf(k, width)-1] = 1
					checkQueue(t, j, a, want...)
					checkSteps(t, j, a, ok)
				} else {
					checkQueue(t, j, a, want...)
				}
				checkSteps(t, j, a, idle)
			}
		}
	}
}

// With Width 2 the document names the ways of a and b.
func TestP7AndP8ExampleOfWays(t *testing.T) {
	j := newJob(t, 2, 1, logOf(put("a", 1, 5), put("b", 1, 5)))
	checkSteps(t, j, 0, ok)
	checkQueue(t, j, 1, 1)
	checkQueue(t, j, 2, 0)
	checkSteps(t, j, 0, ok)
	checkQueue(t, j, 2, 1)
	checkSteps(t, j, 1, ok)
	checkQueue(t, j, 3, 0, 0)
	checkQueue(t, j, 4, 1, 0)
	checkSteps(t, j, 2, ok)
	checkQueue(t, j, 3, 0, 1)
	checkQueue(t, j, 4, 1, 0)
}

// A pipe to a sorter has room for Room items, no matter how full the others are.
func TestP7RoomOfAPipe(t *testing.T) {
	for room := 1; room <= 4; room++ {
		var events []api.Event
		for n := range room {
			events = append(events, put("b", uint16(n), 1))
		}
		events = append(events, put("a", 1, 1), put("b", 100, 1), put("a", 2, 1))
		j := newJob(t, 2, room, logOf(events...))
		for n := range room {
			checkQueue(t, j, 2, n)
			checkSteps(t, j, 0, ok)
		}
		checkSteps(t, j, 0, ok, full, full)
		checkQueue(t, j, 0, 2)
		checkQueue(t, j, 1, 1)
		checkQueue(t, j, 2, room)
		// Room behind another event than the next one does not help: the order of the log stays.
		checkSteps(t, j, 1, ok)
		checkSteps(t, j, 0, full)
		checkSteps(t, j, 2, ok)
		checkSteps(t, j, 0, ok, ok, idle)
		checkQueue(t, j, 0, 0)
		checkQueue(t, j, 1, 1)
		checkQueue(t, j, 2, room)
	}
}

// All events sent tells ErrIdle, even if the pipes are full.
func TestP7IdleAheadOfFull(t *testing.T) {
	j := newJob(t, 1, 1, logOf(put("a", 1, 5)))
	checkSteps(t, j, 0, ok, idle)
	checkQueue(t, j, 0, 0)
	checkQueue(t, j, 1, 1)
	j = newJob(t, 1, 1, "")
	checkSteps(t, j, 0, idle, idle)
}

// Barriers go ahead of the next event, into all pipes or into none.
func TestP7Barriers(t *testing.T) {
	for width := 1; width <= 4; width++ {
		for sorter := 1; sorter <= width; sorter++ {
			// The events fill the pipe of one sorter; the last goes to another, if there is one.
			other := sorter%width + 1
			k, next := keysOf("k", sorter, width, 1)[0], keysOf("k", other, width, 1)[0]
			j := newJob(t, width, 2, logOf(put(k, 1, 1), put(k, 2, 1), put(next, 9, 1)))
			checkSteps(t, j, 0, ok, ok)
			checkTrigger(t, j, 1, ok)
			checkSteps(t, j, 0, full, full)
			checkQueue(t, j, 0, 1)
			for s := 1; s <= width; s++ {
				if s == sorter {
					checkQueue(t, j, s, 2)
				} else {
					checkQueue(t, j, s, 0)
				}
			}
			checkSteps(t, j, sorter, ok)
			checkSteps(t, j, 0, ok)
			checkQueue(t, j, 0, 1)
			for s := 1; s <= width; s++ {
				if s == sorter {
					checkQueue(t, j, s, 2)
				} else {
					checkQueue(t, j, s, 1)
				}
			}
			if other != sorter {
				checkSteps(t, j, 0, ok, idle)
				checkQueue(t, j, other, 2)
			}
		}
	}
}

// Barriers are sent once for a checkpoint, and behind the last event too.
func TestP7BarriersOnce(t *testing.T) {
	for width := 1; width <= 4; width++ {
		j := newJob(t, width, 4, logOf(drop("a", 1)))
		checkSteps(t, j, 0, ok, idle)
		checkTrigger(t, j, 1, ok)
		checkSteps(t, j, 0, ok, idle, idle)
		j = newJob(t, width, 4, "")
		checkTrigger(t, j, 1, ok)
		checkSteps(t, j, 0, ok, idle, idle)
		for s := 1; s <= width; s++ {
			checkQueue(t, j, s, 1)
		}
	}
}

// The checkpoint's offset is that of the source's step, not that of Trigger or of the commit.
func TestP7OffsetOfACheckpoint(t *testing.T) {
	j := newJob(t, 1, 1, logOf(put("a", 1, 5), put("a", 2, 6), put("a", 3, 7)))
	checkSteps(t, j, 0, ok)
	checkTrigger(t, j, 1, ok)
	checkSteps(t, j, 0, full)
	checkSteps(t, j, 1, ok)
	checkSteps(t, j, 0, ok, full)
	checkSteps(t, j, 2, ok)
	checkSteps(t, j, 1, ok)
	checkSteps(t, j, 0, ok)
	checkSteps(t, j, 1, full)
	checkSteps(t, j, 2, ok)
	checkSteps(t, j, 1, ok)
	checkSteps(t, j, 0, ok)
	checkSteps(t, j, 3, ok, ok)
	checkShown(t, j, 1, "a 1 5 1;")
	checkQueue(t, j, 0, 0)
}

// What does not count is taken, and needs no room.
func TestP8WhatDoesNotCount(t *testing.T) {
	log := logOf(put("a", 9, 1), put("a", 9, 2), put("a", 8, 3), drop("a", 9), put("a", 32777, 4), drop("a", 65000), put("a", 10, 5))
	j := newJob(t, 1, 1, log)
	checkSteps(t, j, 0, ok)
	checkSteps(t, j, 1, ok)
	checkQueue(t, j, 2, 1)
	for range 5 {
		checkSteps(t, j, 0, ok, full)
		checkSteps(t, j, 1, ok, idle)
		checkQueue(t, j, 1, 0)
		checkQueue(t, j, 2, 1)
	}
	checkSteps(t, j, 0, ok)
	checkSteps(t, j, 1, full, full)
	checkQueue(t, j, 1, 1)
	checkQueue(t, j, 2, 1)
	checkSteps(t, j, 2, ok, idle)
	checkSteps(t, j, 1, ok, idle)
	checkQueue(t, j, 1, 0)
	checkQueue(t, j, 2, 1)
	checkTrigger(t, j, 1, ok)
	rounds(j, 4, 9)
	checkShown(t, j, 7, "a 1 5 2;")
}

// An event that found no room is not known of yet: it counts when there is room.
func TestP8FullKnowsNothing(t *testing.T) {
	j := newJob(t, 1, 1, logOf(put("a", 1, 5), put("b", 1, 7), put("b", 1, 8)))
	checkSteps(t, j, 0, ok)
	checkSteps(t, j, 1, ok)
	checkSteps(t, j, 0, ok)
	checkSteps(t, j, 1, full, full, full)
	checkSteps(t, j, 2, ok)
	checkSteps(t, j, 1, ok)
	checkQueue(t, j, 2, 1)
	checkSteps(t, j, 0, ok)
	checkSteps(t, j, 1, ok)
	checkQueue(t, j, 2, 1)
	checkTrigger(t, j, 1, ok)
	rounds(j, 4, 9)
	checkShown(t, j, 3, "a 1 5 1;b 1 7 1;")
}

// A pipe to an adder has room for Room items; an event needs room in its own pipe alone.
func TestP8RoomOfAPipe(t *testing.T) {
	for room := 1; room <= 4; room++ {
		var events []api.Event
		for n := range room {
			events = append(events, put("a", uint16(n), 1))
		}
		// At width 2 the sorter of a and of ba is 1; the adder of the group a is 4, that of b 3.
		events = append(events, put("ba", 1, 1), put("a", 100, 1))
		j := newJob(t, 2, room, logOf(events...))
		for n := range room {
			checkQueue(t, j, 4, n, 0)
			checkSteps(t, j, 0, ok)
			checkSteps(t, j, 1, ok)
		}
		checkQueue(t, j, 4, room, 0)
		checkSteps(t, j, 0, ok)
		checkSteps(t, j, 1, ok)
		checkQueue(t, j, 3, 1, 0)
		checkSteps(t, j, 0, ok)
		checkSteps(t, j, 1, full)
		checkSteps(t, j, 3, ok)
		checkSteps(t, j, 1, full)
		checkSteps(t, j, 4, ok)
		checkSteps(t, j, 1, ok, idle)
		checkQueue(t, j, 4, room, 0)
	}
}

// A barrier needs room in all pipes of the sorter, and goes into all of them or into none.
func TestP8Barrier(t *testing.T) {
	for width := 1; width <= 4; width++ {
		for sorter := 1; sorter <= width; sorter++ {
			for adder := width + 1; adder <= 2*width; adder++ {
				// The code points of w to z leave each rest once at width 4.
				group := "w"
				for adderOf(group, width) != adder {
					group = string([]byte{group[0] + 1})
				}
				k := keysOf(group, sorter, width, 1)[0]
				j := newJob(t, width, 1, logOf(put(k, 1, 1)))
				checkSteps(t, j, 0, ok)
				checkSteps(t, j, sorter, ok)
				checkTrigger(t, j, 1, ok)
				checkSteps(t, j, 0, ok)
				checkSteps(t, j, sorter, full, full)
				checkQueue(t, j, sorter, 1)
				for a := width + 1; a <= 2*width; a++ {
					want := make([]int, width)
					if a == adder {
						want[sorter-1] = 1
					}
					checkQueue(t, j, a, want...)
				}
				checkSteps(t, j, adder, ok, idle)
				checkSteps(t, j, sorter, ok, idle)
				checkQueue(t, j, sorter, 0)
				for a := width + 1; a <= 2*width; a++ {
					want := make([]int, width)
					want[sorter-1] = 1
					checkQueue(t, j, a, want...)
				}
			}
		}
	}
}

// Of the changes of a key the view tells what becomes of Live and Sum.
func TestP8Changes(t *testing.T) {
	for _, c := range []struct {
		want   string
		events []api.Event
	}{
		{"a 1 5 1;", []api.Event{put("a", 1, 5)}},
		{"a 1 -9 2;", []api.Event{put("a", 1, 5), put("a", 2, -9)}},
		{"a 0 0 2;", []api.Event{put("a", 1, 5), drop("a", 2)}},
		{"a 0 0 2;", []api.Event{drop("a", 1), drop("a", 2)}},
		{"a 1 5 3;", []api.Event{put("a", 1, 9), drop("a", 2), put("a", 3, 5)}},
		{"a 1 32767 2;", []api.Event{put("a", 1, -32768), put("a", 2, 32767)}},
		{"a 2 -32768 2;", []api.Event{put("a", 1, 32767), put("ab", 1, 1)}},
		{"a 2 0 2;", []api.Event{put("a", 1, -32768), put("aa", 1, -32768)}},
		{"a 1 2 2;", []api.Event{put("a", 65535, 1), put("a", 0, 2)}},
		{"a 1 1 1;", []api.Event{put("a", 0, 1), put("a", 32768, 2)}},
	} {
		for width := 1; width <= 4; width++ {
			for _, often := range []bool{false, true} {
				j := newJob(t, width, 1, logOf(c.events...))
				number := 0
				for n := range c.events {
					checkSteps(t, j, 0, ok)
					// With a checkpoint behind each event, what a sorter or an adder forgot at one would be missing.
					if often || n == len(c.events)-1 {
						number++
						commit(t, j, width, number)
					} else {
						restOfRounds(j, width, 12)
					}
				}
				checkShown(t, j, len(c.events), c.want)
			}
		}
	}
}

// restOfRounds lets each task but the source step once, so many times.
func restOfRounds(j *canal.Job, width int, times int) {
	for range times {
		for task := 1; task <= 2*width+1; task++ {
			j.Step(task)
		}
	}
}

// commit brings a checkpoint from its Trigger to its commit, and sends no event.
func commit(t *testing.T, j *canal.Job, width int, number int) {
	t.Helper()
	checkTrigger(t, j, number, ok)
	restOfRounds(j, width, 12)
	checkSteps(t, j, 0, ok)
	restOfRounds(j, width, 12)
}

// An adder takes from its first open pipe that has an item, by the sorters' numbers, not by who came first.
func TestP9FirstPipe(t *testing.T) {
	k := []string{keysOf("a", 1, 3, 1)[0], keysOf("a", 2, 3, 1)[0], keysOf("a", 3, 3, 1)[0]}
	adder := adderOf("a", 3)
	j := newJob(t, 3, 2, logOf(put(k[2], 1, 1), put(k[1], 1, 1), put(k[0], 1, 1), put(k[0], 2, 1), put(k[2], 2, 1)))
	checkSteps(t, j, 0, ok, ok, ok, ok, ok, idle)
	checkSteps(t, j, 3, ok, ok, idle)
	checkSteps(t, j, 2, ok, idle)
	checkQueue(t, j, adder, 0, 1, 2)
	checkSteps(t, j, 1, ok)
	checkQueue(t, j, adder, 1, 1, 2)
	checkSteps(t, j, adder, ok)
	checkQueue(t, j, adder, 0, 1, 2)
	checkSteps(t, j, 1, ok)
	checkQueue(t, j, adder, 1, 1, 2)
	for _, want := range [][]int{{0, 1, 2}, {0, 0, 2}, {0, 0, 1}, {0, 0, 0}} {
		checkSteps(t, j, adder, ok)
		checkQueue(t, j, adder, want...)
	}
	checkSteps(t, j, adder, idle)
}

// A pipe is stopped behind its barrier, and what waits in it stays there until all are stopped.
func TestP9Stopped(t *testing.T) {
	// At width 2 the sorter of a is 1, that of aa is 2; the adder of both is 4.
	j := newJob(t, 2, 3, logOf(put("a", 1, 1), put("a", 2, 2), put("aa", 1, 10), put("aa", 2, 20)))
	checkSteps(t, j, 0, ok)
	checkTrigger(t, j, 1, ok)
	checkSteps(t, j, 0, ok, ok, ok, ok, idle)
	checkSteps(t, j, 1, ok, ok, ok, idle)
	checkQueue(t, j, 4, 3, 0)
	checkSteps(t, j, 4, ok, ok, idle)
	checkQueue(t, j, 4, 1, 0)
	checkSteps(t, j, 3, ok, idle)
	checkSteps(t, j, 5, idle)
	checkSteps(t, j, 2, ok)
	checkQueue(t, j, 4, 1, 1)
	checkSteps(t, j, 3, ok, idle)
	checkSteps(t, j, 5, idle)
	// The barrier of the second pipe is taken ahead of what waits in the first, which is stopped.
	checkSteps(t, j, 4, ok)
	checkQueue(t, j, 4, 1, 0)
	checkQueue(t, j, 5, 1)
	// All are open again, ahead of the commit already.
	checkSteps(t, j, 2, ok, ok, idle)
	checkSteps(t, j, 4, ok)
	checkQueue(t, j, 4, 0, 2)
	checkSteps(t, j, 4, ok, ok, idle)
	checkShown(t, j, 0, "")
	// What was laid ready is as it was then.
	checkSteps(t, j, 5, ok, ok, idle)
	checkShown(t, j, 1, "a 1 1 1;")
	checkTrigger(t, j, 2, ok)
	rounds(j, 6, 9)
	checkShown(t, j, 4, "a 2 22 4;")
}

// While one pipe is stopped, changes of the others still count for the checkpoint.
func TestP9OpenPipesGoOn(t *testing.T) {
	j := newJob(t, 2, 2, logOf(put("aa", 1, 10), put("aa", 2, 20), put("a", 1, 1)))
	checkSteps(t, j, 0, ok)
	checkSteps(t, j, 2, ok)
	checkSteps(t, j, 0, ok)
	checkTrigger(t, j, 1, ok)
	checkSteps(t, j, 0, ok, ok)
	checkSteps(t, j, 1, ok, ok, idle)
	// The first pipe: the barrier, and behind it the change of a. The second: the first change of aa.
	checkQueue(t, j, 4, 2, 1)
	checkSteps(t, j, 4, ok)
	checkQueue(t, j, 4, 1, 1)
	checkSteps(t, j, 4, ok)
	checkQueue(t, j, 4, 1, 0)
	checkSteps(t, j, 4, idle)
	checkSteps(t, j, 2, ok, ok, idle)
	checkQueue(t, j, 4, 1, 2)
	checkSteps(t, j, 4, ok, ok)
	checkQueue(t, j, 4, 1, 0)
	checkSteps(t, j, 3, ok, ok)
	checkSteps(t, j, 5, ok, ok)
	checkShown(t, j, 2, "a 1 20 2;")
}

// Groups that are not changed stay in the view as they were, beside those that are, whichever adder has them.
func TestP9GroupsThatAreNotChanged(t *testing.T) {
	for width := 1; width <= 4; width++ {
		j := newJob(t, width, 1, logOf(put("b", 1, 2), put("d", 1, 4), put("c", 1, 3), put("b", 2, 2), drop("d", 2), put("a", 1, 1)))
		for n, want := range []string{"b 1 2 1;", "b 1 2 1;d 1 4 1;", "b 1 2 1;c 1 3 1;d 1 4 1;", "b 1 2 2;c 1 3 1;d 1 4 1;", "b 1 2 2;c 1 3 1;d 0 0 2;", "a 1 1 1;b 1 2 2;c 1 3 1;d 0 0 2;"} {
			checkSteps(t, j, 0, ok)
			commit(t, j, width, n+1)
			checkShown(t, j, n+1, want)
		}
	}
}

// A change by which neither Live nor Sum becomes another counts in Events, and is laid ready.
func TestP9EventsAlone(t *testing.T) {
	j := newJob(t, 1, 4, logOf(put("a", 1, 5), put("a", 2, 5), drop("b", 1)))
	checkSteps(t, j, 0, ok)
	checkTrigger(t, j, 1, ok)
	checkSteps(t, j, 0, ok)
	checkSteps(t, j, 1, ok, ok)
	checkSteps(t, j, 2, ok, ok)
	checkSteps(t, j, 3, ok, ok)
	checkShown(t, j, 1, "a 1 5 1;")
	rounds(j, 4, 9)
	checkTrigger(t, j, 2, ok)
	rounds(j, 4, 9)
	checkShown(t, j, 3, "a 1 5 2;b 0 0 1;")
}

// The keeper waits for each task: source, sorters and adders, in whatever order they work.
func TestP10WaitsForAll(t *testing.T) {
	for width := 1; width <= 4; width++ {
		keeper := 2*width + 1
		for last := width + 1; last <= 2*width; last++ {
			j := newJob(t, width, 1, "")
			checkSteps(t, j, keeper, idle)
			checkTrigger(t, j, 1, ok)
			checkSteps(t, j, keeper, idle)
			checkSteps(t, j, 0, ok)
			checkSteps(t, j, keeper, idle)
			for s := 1; s <= width; s++ {
				checkSteps(t, j, s, ok)
				checkSteps(t, j, keeper, idle)
			}
			for n := range width {
				a := width + 1 + (last-width+n)%width
				for range width {
					checkQueue(t, j, keeper, 0)
					checkSteps(t, j, keeper, idle)
					checkSteps(t, j, a, ok)
				}
				checkSteps(t, j, a, idle)
			}
			checkQueue(t, j, keeper, 1)
			checkSteps(t, j, keeper, ok)
			checkTrigger(t, j, 0, api.ErrBusy)
			checkSteps(t, j, keeper, ok, idle)
			checkTrigger(t, j, 2, ok)
			// What the adders laid ready for the first is not taken for the second.
			checkSteps(t, j, keeper, idle)
			checkSteps(t, j, 0, ok)
			checkSteps(t, j, keeper, idle)
		}
	}
}

// The tasks need not wait for the keeper: events flow on, ahead of the commit and behind it.
func TestP10OthersGoOn(t *testing.T) {
	j := newJob(t, 1, 1, exampleLog())
	checkTrigger(t, j, 1, ok)
	for task := range 3 {
		checkSteps(t, j, task, ok)
	}
	for range 9 {
		for task := range 3 {
			j.Step(task)
		}
		checkShown(t, j, 0, "")
	}
	checkQueue(t, j, 0, 0)
	checkSteps(t, j, 3, ok)
	checkTrigger(t, j, 0, api.ErrBusy)
	checkSteps(t, j, 0, idle)
	checkSteps(t, j, 3, ok)
	checkShown(t, j, 0, "")
	checkTrigger(t, j, 2, ok)
	rounds(j, 4, 9)
	checkShown(t, j, 6, "a 1 7 3;b 1 -3 1;")
}

// A step that tells an error changes nothing, however often it is tried.
func TestP1StepsThatAreRefused(t *testing.T) {
	n := &numbers{71}
	for range 30 {
		width := 1 + n.next(4)
		log, _ := n.log(30)
		p := newPair(t, width, 1+n.next(2), log)
		for range 150 {
			task := n.next(2*width + 2)
			for try := 0; try < 4 && p.step(task) != ok; try++ {
				p.compare()
			}
			if n.next(20) == 0 {
				p.trigger()
			}
		}
		p.settle()
	}
}
