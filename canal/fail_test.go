package canal_test

import (
	"strings"
	"testing"

	"canal/api"
	"canal/canal"
)

// sendAll sends so many events, and lets each flow to the end.
func sendAll(t *testing.T, j *canal.Job, width int, events int) {
	t.Helper()
	for range events {
		checkSteps(t, j, 0, ok)
		restOfRounds(j, width, 4)
	}
}

// checkAfterFail checks that nothing flows, what is shown, and the number of the checkpoint that is triggered then.
func checkAfterFail(t *testing.T, j *canal.Job, width int, events []api.Event, offset int, number int) {
	t.Helper()
	checkStill(t, j, width, len(events)-offset)
	checkShown(t, j, offset, textOf(events[:offset]))
	checkTrigger(t, j, number, ok)
}

func TestP12Example(t *testing.T) {
	j := newJob(t, 1, 1, exampleLog())
	sendAll(t, j, 1, 2)
	commit(t, j, 1, 1)
	checkShown(t, j, 2, "a 2 12 2;")
	checkSteps(t, j, 0, ok)
	j.Fail()
	checkQueue(t, j, 0, 4)
	checkQueue(t, j, 1, 0)
	checkTrigger(t, j, 2, ok)
	j.Fail()
	checkTrigger(t, j, 3, ok)
}

func TestP12OfANewJob(t *testing.T) {
	for width := 1; width <= 4; width++ {
		for room := 1; room <= 4; room++ {
			for _, log := range []string{"", "x", strings.Repeat("x", 400), exampleLog(), exampleLog() + "x", strings.Repeat(recordOf(put("a", 1, 5)), 50)} {
				events, _, _ := readAll(log)
				j := newJob(t, width, room, log)
				j.Fail()
				checkFresh(t, j, width, len(events))
				j.Fail()
				checkAfterFail(t, j, width, events, 0, 1)
				j.Fail()
				checkAfterFail(t, j, width, events, 0, 2)
				rounds(j, 2*width+2, 50+3*len(events))
				checkTrigger(t, j, 3, ok)
				rounds(j, 2*width+2, 30)
				checkShown(t, j, len(events), textOf(events))
				j.Fail()
				checkAfterFail(t, j, width, events, len(events), 4)
			}
		}
	}
}

// Where no checkpoint is under way, all that flowed since the last commit is forgotten.
func TestP12NoCheckpoint(t *testing.T) {
	n := &numbers{71}
	for range 30 {
		for width := 1; width <= 4; width++ {
			log, events := n.log(20)
			for offset := range len(events) + 1 {
				j := newJob(t, width, 1+n.next(4), log)
				number := 0
				if offset > 0 {
					number++
					sendAll(t, j, width, offset)
					commit(t, j, width, number)
				}
				for range n.next(60) {
					j.Step(n.busy(width, n.next(4)))
				}
				j.Fail()
				checkAfterFail(t, j, width, events, offset, number+1)
			}
		}
	}
}

// Pipes that were full have all their room again.
func TestP12RoomOfPipes(t *testing.T) {
	for room := 1; room <= 4; room++ {
		var events []api.Event
		for n := range 2*room + 1 {
			events = append(events, put("a", uint16(n), 1))
		}
		j := newJob(t, 1, room, logOf(events...))
		for range 3 {
			for range room {
				checkSteps(t, j, 0, ok)
				checkSteps(t, j, 1, ok)
			}
			for range room {
				checkSteps(t, j, 0, ok)
			}
			checkSteps(t, j, 0, full)
			checkSteps(t, j, 1, full)
			checkQueue(t, j, 1, room)
			checkQueue(t, j, 2, room)
			j.Fail()
			checkFresh(t, j, 1, len(events))
		}
	}
}

// roadToComplete is the steps of a checkpoint at width 2, up to the keeper's that completes it.
var roadToComplete = []int{0, 1, 2, 4, 4, 3, 3, 5}

// A checkpoint that is not complete is dropped, wherever it is; one that is complete is committed.
func TestP12EachPlaceOfACheckpoint(t *testing.T) {
	events := []api.Event{put("a", 1, 5), put("b", 1, 7), drop("a", 2), put("c", 1, 9)}
	for first := range 3 {
		for end := range len(roadToComplete) + 1 {
			j := newJob(t, 2, 4, logOf(events...))
			sendAll(t, j, 2, first)
			commit(t, j, 2, 1)
			sendAll(t, j, 2, 2)
			checkTrigger(t, j, 2, ok)
			for _, task := range roadToComplete[:end] {
				checkSteps(t, j, task, ok)
			}
			checkTrigger(t, j, 0, api.ErrBusy)
			checkShown(t, j, first, textOf(events[:first]))
			j.Fail()
			offset := first
			if end == len(roadToComplete) {
				offset = first + 2
			}
			checkAfterFail(t, j, 2, events, offset, 3)
			rounds(j, 6, 30)
			checkShown(t, j, offset, textOf(events[:offset]))
			checkTrigger(t, j, 4, ok)
			rounds(j, 6, 30)
			checkShown(t, j, 4, "a 0 0 2;b 1 7 1;c 1 9 1;")
		}
	}
}

// With the next checkpoint nothing is shown that was laid ready for a dropped one.
func TestP12LaidReadyIsDropped(t *testing.T) {
	j := newJob(t, 2, 4, logOf(put("a", 1, 5), put("b", 1, 7), put("c", 1, 9)))
	sendAll(t, j, 2, 3)
	checkTrigger(t, j, 1, ok)
	for _, task := range roadToComplete[:len(roadToComplete)-1] {
		checkSteps(t, j, task, ok)
	}
	checkQueue(t, j, 5, 1)
	j.Fail()
	checkQueue(t, j, 5, 0)
	checkShown(t, j, 0, "")
	commit(t, j, 2, 2)
	checkShown(t, j, 0, "")
	sendAll(t, j, 2, 1)
	commit(t, j, 2, 3)
	checkShown(t, j, 1, "a 1 5 1;")
	sendAll(t, j, 2, 1)
	commit(t, j, 2, 4)
	checkShown(t, j, 2, "a 1 5 1;b 1 7 1;")
}

// What tasks did for a dropped checkpoint does not help the next one along.
func TestP12DroppedDoesNotHelp(t *testing.T) {
	for end := range len(roadToComplete) {
		j := newJob(t, 2, 4, exampleLog())
		checkTrigger(t, j, 1, ok)
		for _, task := range roadToComplete[:end] {
			checkSteps(t, j, task, ok)
		}
		j.Fail()
		checkTrigger(t, j, 2, ok)
		for at, task := range roadToComplete {
			if at < len(roadToComplete)-1 {
				checkQueue(t, j, 5, 0)
				checkSteps(t, j, 5, idle)
			}
			checkSteps(t, j, task, ok)
		}
		checkSteps(t, j, 5, ok, idle)
		checkShown(t, j, 0, "")
		checkQueue(t, j, 0, 6)
	}
}

// The offset of a dropped checkpoint is forgotten too: the next one has its own.
func TestP12OffsetOfADroppedOne(t *testing.T) {
	j := newJob(t, 1, 4, exampleLog())
	checkSteps(t, j, 0, ok, ok, ok)
	checkTrigger(t, j, 1, ok)
	checkSteps(t, j, 0, ok)
	j.Fail()
	checkSteps(t, j, 0, ok)
	checkQueue(t, j, 0, 5)
	checkTrigger(t, j, 2, ok)
	checkSteps(t, j, 0, ok)
	restOfRounds(j, 1, 9)
	checkShown(t, j, 1, "a 1 5 1;")
}

// A stopped pipe is open again, and is not stopped for the next checkpoint.
func TestP12StoppedPipes(t *testing.T) {
	// At width 2 the sorter of a is 1, that of aa is 2; the adder of both is 4.
	for sorter := 1; sorter <= 2; sorter++ {
		j := newJob(t, 2, 2, logOf(put("a", 1, 1), put("aa", 1, 10), put("a", 2, 2), put("aa", 2, 20)))
		checkTrigger(t, j, 1, ok)
		checkSteps(t, j, 0, ok, ok, ok)
		checkSteps(t, j, sorter, ok, ok)
		checkSteps(t, j, 4, ok, idle)
		j.Fail()
		checkFresh(t, j, 2, 4)
		checkSteps(t, j, 0, ok, ok)
		checkSteps(t, j, 1, ok)
		checkSteps(t, j, 2, ok)
		checkSteps(t, j, 4, ok, ok, idle)
		checkTrigger(t, j, 2, ok)
		checkSteps(t, j, 0, ok)
		checkSteps(t, j, 3-sorter, ok)
		checkSteps(t, j, 3, ok)
		checkSteps(t, j, 4, ok, idle)
		checkSteps(t, j, 5, idle)
		checkSteps(t, j, sorter, ok)
		checkSteps(t, j, 3, ok)
		checkSteps(t, j, 4, ok)
		checkSteps(t, j, 5, ok, ok, idle)
		checkShown(t, j, 2, "a 2 11 2;")
	}
}

// A checkpoint that is complete is committed; what flowed behind its barriers is sent again.
func TestP12Complete(t *testing.T) {
	j := newJob(t, 1, 4, logOf(put("a", 1, 5), put("b", 1, 7), put("a", 2, 6), put("c", 1, 1)))
	sendAll(t, j, 1, 2)
	checkTrigger(t, j, 1, ok)
	checkSteps(t, j, 0, ok, ok, ok, idle)
	checkSteps(t, j, 1, ok, ok)
	checkSteps(t, j, 2, ok, ok)
	checkSteps(t, j, 3, ok)
	checkTrigger(t, j, 0, api.ErrBusy)
	checkShown(t, j, 0, "")
	checkQueue(t, j, 3, 1)
	j.Fail()
	checkShown(t, j, 2, "a 1 5 1;b 1 7 1;")
	checkStill(t, j, 1, 2)
	sendAll(t, j, 1, 1)
	commit(t, j, 1, 2)
	checkShown(t, j, 3, "a 1 6 2;b 1 7 1;")
	sendAll(t, j, 1, 1)
	commit(t, j, 1, 3)
	checkShown(t, j, 4, "a 1 6 2;b 1 7 1;c 1 1 1;")
}

// Fail again, ahead of anything else, changes nothing.
func TestP12Twice(t *testing.T) {
	n := &numbers{73}
	for range 200 {
		width := 1 + n.next(4)
		log, _ := n.log(n.next(30))
		p := newPair(t, width, 1+n.next(4), log)
		for range n.next(100) {
			if n.next(8) == 0 {
				p.trigger()
			}
			p.step(n.busy(width, n.next(4)))
		}
		for range 1 + n.next(4) {
			p.fail()
		}
		p.settle()
	}
}

// Numbers go on behind checkpoints that were dropped, and what is refused has none.
func TestP12Numbers(t *testing.T) {
	for width := 1; width <= 4; width++ {
		j := newJob(t, width, 1, exampleLog())
		for number := 1; number <= 300; number++ {
			checkTrigger(t, j, number, ok)
			checkTrigger(t, j, 0, api.ErrBusy)
			if number%3 == 0 {
				rounds(j, 2*width+2, 30)
			} else {
				rounds(j, 2*width+2, number%2)
				j.Fail()
			}
			if number%5 == 0 {
				j.Fail()
			}
		}
		rounds(j, 2*width+2, 70)
		checkTrigger(t, j, 301, ok)
		rounds(j, 2*width+2, 30)
		checkShown(t, j, 6, "a 1 7 3;b 1 -3 1;")
	}
}

// With no commit the sorters know of no key: what they took counts anew, and in the same way.
func TestP12SorterKnowsNothing(t *testing.T) {
	j := newJob(t, 1, 4, logOf(put("a", 5, 1), put("a", 5, 2), put("a", 4, 3), drop("a", 6)))
	for range 3 {
		checkSteps(t, j, 0, ok, ok, ok, ok)
		// The first and the last count, the others do not.
		for _, waiting := range []int{1, 1, 1, 2} {
			checkSteps(t, j, 1, ok)
			checkQueue(t, j, 2, waiting)
		}
		checkSteps(t, j, 2, ok)
		j.Fail()
		checkFresh(t, j, 1, 4)
	}
	sendAll(t, j, 1, 4)
	commit(t, j, 1, 1)
	checkShown(t, j, 4, "a 0 0 2;")
}

// Behind a commit a sorter knows the Seqs of what was ahead of the barrier, and of nothing behind it.
func TestP12SorterKnowsSeqs(t *testing.T) {
	for _, c := range []struct {
		event  api.Event
		counts int
	}{
		{put("a", 4, 9), 0}, {put("a", 5, 9), 0}, {drop("a", 5), 0}, {put("a", 5+32768, 9), 0},
		{put("a", 6, 9), 1}, {drop("a", 6), 1}, {put("a", 5+32767, 9), 1},
		{put("b", 7, 9), 0}, {put("b", 8, 9), 1}, {put("ab", 0, 9), 1},
	} {
		// a and b had their last event that counted ahead of the barrier, b as a Drop; what is behind it is newer than all.
		j := newJob(t, 1, 4, logOf(put("a", 5, 1), drop("b", 7), put("a", 4, 2), c.event, put("a", 20000, 3), put("b", 20000, 3)))
		sendAll(t, j, 1, 3)
		checkTrigger(t, j, 1, ok)
		checkSteps(t, j, 0, ok, ok, ok, ok, idle)
		checkSteps(t, j, 1, ok, ok, ok, ok, idle)
		restOfRounds(j, 1, 9)
		checkShown(t, j, 3, "a 1 1 1;b 0 0 1;")
		for range 3 {
			j.Fail()
			checkStill(t, j, 1, 3)
			checkSteps(t, j, 0, ok)
			checkSteps(t, j, 1, ok)
			checkQueue(t, j, 2, c.counts)
			checkSteps(t, j, 0, ok, ok)
			checkSteps(t, j, 1, ok, ok)
		}
	}
}

// A sorter knows the values of the barrier too: what is added to Sum is told from them.
func TestP12SorterKnowsValues(t *testing.T) {
	for _, c := range []struct {
		last api.Event
		want string
	}{
		{put("a", 9, -7), "a 1 -7 2;b 0 0 2;"},
		{drop("a", 9), "a 0 0 2;b 0 0 2;"},
		{put("b", 9, 4), "a 1 100 1;b 1 4 3;"},
		{drop("b", 9), "a 1 100 1;b 0 0 3;"},
	} {
		for width := 1; width <= 4; width++ {
			log := logOf(put("a", 1, 100), put("b", 1, 30), drop("b", 2), c.last)
			j := newJob(t, width, 2, log)
			sendAll(t, j, width, 3)
			commit(t, j, width, 1)
			for range 3 {
				sendAll(t, j, width, 1)
				j.Fail()
				checkShown(t, j, 3, "a 1 100 1;b 0 0 2;")
			}
			sendAll(t, j, width, 1)
			commit(t, j, width, 2)
			checkShown(t, j, 4, c.want)
		}
	}
}

// An adder goes on from what it laid ready for the barrier: with nothing of what came behind it, and nothing less.
func TestP12AdderKnows(t *testing.T) {
	for width := 1; width <= 4; width++ {
		j := newJob(t, width, 4, logOf(put("a", 1, 32767), put("b", 1, 2), put("aa", 1, 1), put("b", 2, 3), drop("a", 2), put("ab", 1, 10)))
		sendAll(t, j, width, 2)
		checkTrigger(t, j, 1, ok)
		checkSteps(t, j, 0, ok)
		// The sorters and adders take all that is behind the barriers ahead of the commit.
		rounds(j, 2*width+1, 20)
		checkQueue(t, j, 0, 0)
		checkShown(t, j, 0, "")
		checkSteps(t, j, 2*width+1, ok, ok, idle)
		checkShown(t, j, 2, "a 1 32767 1;b 1 2 1;")
		for number := 2; number <= 6; number++ {
			j.Fail()
			rounds(j, 2*width+2, number)
			checkTrigger(t, j, number, ok)
		}
		j.Fail()
		for n, want := range []string{"a 2 -32768 2;b 1 2 1;", "a 2 -32768 2;b 1 3 2;", "a 1 1 3;b 1 3 2;", "a 2 11 4;b 1 3 2;"} {
			sendAll(t, j, width, 1)
			commit(t, j, width, 7+n)
			checkShown(t, j, 3+n, want)
			j.Fail()
			checkStill(t, j, width, 3-n)
			checkShown(t, j, 3+n, want)
		}
	}
}

// A job that failed does from then on what one does that came to the same commit on the straight way.
func TestP12GoesOnFromTheCommit(t *testing.T) {
	n := &numbers{79}
	for range 300 {
		width, room := 1+n.next(4), 1+n.next(4)
		events := n.eventsOf(40, 400, []string{"a", "aa", "b", "é", "z", "zz"}, 0, 9)
		log := logOf(events...)
		offset := n.next(len(events) + 1)
		failed, straight := newJob(t, width, room, log), newJob(t, width, room, log)
		n.bring(t, failed, width, len(events), offset)
		for range n.next(60) {
			failed.Step(n.busy(width, n.next(4)))
		}
		failed.Fail()
		sendAll(t, straight, width, offset)
		commit(t, straight, width, 1)
		for range 200 {
			task := n.next(2*width + 2)
			want := straight.Step(task)
			checkSteps(t, failed, task, want)
			if n.next(12) == 0 {
				_, want := straight.Trigger()
				if _, got := failed.Trigger(); got != want {
					t.Fatalf("Trigger() tells %d, want %d", got, want)
				}
			}
			checkSame(t, failed, straight, width)
		}
	}
}

// checkSame checks that two jobs of a width show the same.
func checkSame(t *testing.T, j *canal.Job, other *canal.Job, width int) {
	t.Helper()
	checkShown(t, j, other.Offset(), other.View())
	for task := range 2*width + 2 {
		want, errno := other.Queue(task)
		if errno != ok {
			t.Fatalf("Queue(%d): %d", task, errno)
		}
		checkQueue(t, j, task, want...)
	}
}

// Fail of one job changes nothing of another, of the same log or of another.
func TestP2FailOfAnotherJob(t *testing.T) {
	n := &numbers{83}
	for width := 1; width <= 4; width++ {
		log, _ := n.log(30)
		p, same, other := newPair(t, width, 2, log), newPair(t, width, 2, log), newPair(t, 5-width, 1, exampleLog())
		for range 300 {
			for _, one := range []*pair{p, same, other} {
				if n.next(10) == 0 {
					one.trigger()
				}
				one.step(n.next(2*one.m.width + 2))
			}
			if n.next(6) == 0 {
				same.fail()
			}
			if n.next(6) == 0 {
				other.fail()
			}
			p.compare()
		}
		p.settle()
		same.settle()
		other.settle()
	}
}

// A job of a log with any bytes behind its records may fail at any moment.
func TestP1FailOfJobsOfAnyBytes(t *testing.T) {
	n := &numbers{89}
	for range 300 {
		log := logOf(n.eventsOf(n.next(20), 200, someKeys, 0, 65536)...) + n.bytes()
		if len(log) > 400 {
			log = log[:400]
		}
		width := 1 + n.next(4)
		p := newPair(t, width, 1+n.next(4), log)
		for range 40 {
			switch n.next(6) {
			case 0:
				p.trigger()
			case 1:
				p.fail()
			default:
				p.step(n.next(2*width + 2))
			}
		}
		p.settle()
	}
}
