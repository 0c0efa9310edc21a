package canal_test

import (
	"math"
	"slices"
	"strings"
	"testing"

	"canal/api"
	"canal/canal"
)

func newJob(t *testing.T, width int, room int, log string) *canal.Job {
	t.Helper()
	j, errno := canal.New(api.Config{Width: width, Room: room}, log)
	if j == nil || errno != api.OK {
		t.Fatalf("New(%d, %d, %.80q): %v, %d", width, room, log, j, errno)
	}
	return j
}

func checkNoJob(t *testing.T, width int, room int, log string, want api.Errno) {
	t.Helper()
	j, errno := canal.New(api.Config{Width: width, Room: room}, log)
	if j != nil || errno != want {
		t.Errorf("New(%d, %d, %.80q): a job %v, %d, want %d", width, room, log, j != nil, errno, want)
	}
}

// checkSteps lets a task step as often as there are answers.
func checkSteps(t *testing.T, j *canal.Job, task int, want ...api.Errno) {
	t.Helper()
	for i, w := range want {
		if got := j.Step(task); got != w {
			t.Fatalf("Step(%d), time %d: %d, want %d", task, i+1, got, w)
		}
	}
}

// checkQueue writes over the list that it was given, and over its spare room (P2).
func checkQueue(t *testing.T, j *canal.Job, task int, want ...int) {
	t.Helper()
	l, errno := j.Queue(task)
	if !slices.Equal(l, want) || errno != api.OK {
		t.Errorf("Queue(%d) = %v, %d, want %v", task, l, errno, want)
	}
	spoil(l)
}

func spoil(l []int) {
	l = l[:cap(l)]
	for i := range l {
		l[i] = -77
	}
}

func checkNoQueue(t *testing.T, j *canal.Job, task int) {
	t.Helper()
	if l, errno := j.Queue(task); l != nil || errno != api.ErrTask {
		t.Errorf("Queue(%d) = %v, %d, want ErrTask", task, l, errno)
	}
}

func checkTrigger(t *testing.T, j *canal.Job, number int, want api.Errno) {
	t.Helper()
	if n, errno := j.Trigger(); n != number || errno != want {
		t.Errorf("Trigger() = %d, %d, want %d, %d", n, errno, number, want)
	}
}

func checkShown(t *testing.T, j *canal.Job, offset int, view string) {
	t.Helper()
	if n, s := j.Offset(), j.View(); n != offset || s != view {
		t.Errorf("Offset() = %d, View() = %q, want %d, %q", n, s, offset, view)
	}
}

// checkFresh checks that a job is as New gives it, with so many events.
func checkFresh(t *testing.T, j *canal.Job, width int, events int) {
	t.Helper()
	checkStill(t, j, width, events)
	checkShown(t, j, 0, "")
}

// checkStill checks that nothing flows, with so many events that are not sent.
func checkStill(t *testing.T, j *canal.Job, width int, events int) {
	t.Helper()
	checkQueue(t, j, 0, events)
	for n := 1; n <= width; n++ {
		checkQueue(t, j, n, 0)
		checkQueue(t, j, width+n, make([]int, width)...)
		checkSteps(t, j, n, api.ErrIdle)
		checkSteps(t, j, width+n, api.ErrIdle)
	}
	checkQueue(t, j, 2*width+1, 0)
	checkSteps(t, j, 2*width+1, api.ErrIdle)
	if events == 0 {
		checkSteps(t, j, 0, api.ErrIdle)
	}
}

func TestP6AllConfigurations(t *testing.T) {
	for width := -2; width <= 9; width++ {
		for room := -2; room <= 9; room++ {
			if width < 1 || width > 4 || room < 1 || room > 4 {
				checkNoJob(t, width, room, exampleLog(), api.ErrConfig)
				checkNoJob(t, width, room, "", api.ErrConfig)
				continue
			}
			checkFresh(t, newJob(t, width, room, exampleLog()), width, 6)
			checkFresh(t, newJob(t, width, room, ""), width, 0)
		}
	}
}

func TestP6FarNumbers(t *testing.T) {
	for _, n := range []int{math.MinInt, math.MinInt + 1, math.MinInt32, -1 << 32, -255, 256 + 1, 65536 + 1, 1<<32 + 1, math.MaxInt32, math.MaxInt - 1, math.MaxInt} {
		for _, other := range []int{0, 1, 4, 5, n} {
			checkNoJob(t, n, other, exampleLog(), api.ErrConfig)
			checkNoJob(t, other, n, "", api.ErrConfig)
		}
	}
}

func TestP6LogBounds(t *testing.T) {
	one := recordOf(put("a", 1, 5))
	checkFresh(t, newJob(t, 4, 4, strings.Repeat(one, 50)), 4, 50)
	checkFresh(t, newJob(t, 1, 1, strings.Repeat("x", 400)), 1, 0)
	checkFresh(t, newJob(t, 2, 3, strings.Repeat(one, 49)+strings.Repeat("x", 8)), 2, 49)
	for _, log := range []string{strings.Repeat(one, 50) + "x", strings.Repeat(one, 51), strings.Repeat("x", 401), strings.Repeat(one, 1000000)} {
		for width := 1; width <= 4; width++ {
			checkNoJob(t, width, 5-width, log, api.ErrLong)
		}
	}
}

func TestP1FirstErrorOfNew(t *testing.T) {
	for _, log := range []string{strings.Repeat("x", 401), strings.Repeat(recordOf(put("a", 1, 5)), 51)} {
		for _, n := range []int{math.MinInt, -1, 0, 5, math.MaxInt} {
			checkNoJob(t, n, 1, log, api.ErrLong)
			checkNoJob(t, 1, n, log, api.ErrLong)
			checkNoJob(t, n, n, log, api.ErrLong)
		}
	}
}

// A log that Decode reads with ErrForm flows as far as its events go.
func TestP6PlaceWithoutRecord(t *testing.T) {
	ahead := logOf(put("a", 1, 5), drop("b", 2))
	for _, wrong := range []string{"x", "\x01", "\x02\x01a\x00\x02\x67", withCheck("\x02\x01\xff\x00\x01")} {
		for _, behind := range []string{"", logOf(put("c", 1, 9))} {
			j := newJob(t, 2, 2, ahead+wrong+behind)
			checkFresh(t, j, 2, 2)
			rounds(j, 6, 10)
			checkSteps(t, j, 0, api.ErrIdle)
			checkTrigger(t, j, 1, api.OK)
			rounds(j, 6, 10)
			checkShown(t, j, 2, "a 1 5 1;b 0 0 1;")
			checkFresh(t, newJob(t, 3, 1, wrong+behind), 3, 0)
		}
	}
}

func TestP1JobsOfAnyBytes(t *testing.T) {
	n := &numbers{47}
	for range 600 {
		log := n.bytes()
		events, _, errno := readAll(log)
		width, room := n.next(7)-1, n.next(7)-1
		switch {
		case errno == api.ErrLong:
			checkNoJob(t, width, room, log, api.ErrLong)
		case width < 1 || width > 4 || room < 1 || room > 4:
			checkNoJob(t, width, room, log, api.ErrConfig)
		default:
			checkFresh(t, newJob(t, width, room, log), width, len(events))
		}
	}
}

// tasksThatAreNot are numbers of no task at a width.
func tasksThatAreNot(width int) []int {
	most := 2*width + 1
	return []int{-1, -2, -most, -256, -65536, -1 << 32, math.MinInt32, math.MinInt, math.MinInt + 1, most + 1, most + 2, 2 * most, 256, 65536, 65537, 1 << 32, 1<<32 + 1, 1 << 62, math.MaxInt32, math.MaxInt - 1, math.MaxInt}
}

// No state of a job has more tasks, and none of those that are not changes anything.
func TestP7TasksThatAreNot(t *testing.T) {
	n := &numbers{53}
	for width := 1; width <= 4; width++ {
		p := newPair(t, width, 2, exampleLog())
		for range 60 {
			for _, task := range tasksThatAreNot(width) {
				checkSteps(t, p.j, task, api.ErrTask)
				checkNoQueue(t, p.j, task)
			}
			p.compare()
			if n.next(5) == 0 {
				p.trigger()
			}
			if n.next(15) == 0 {
				p.fail()
			}
			p.step(n.next(2*width + 2))
		}
	}
}

func TestP11Numbers(t *testing.T) {
	for width := 1; width <= 4; width++ {
		j := newJob(t, width, 1, exampleLog())
		for number := 1; number <= 300; number++ {
			checkTrigger(t, j, number, api.OK)
			// What is refused has no number.
			checkTrigger(t, j, 0, api.ErrBusy)
			checkTrigger(t, j, 0, api.ErrBusy)
			rounds(j, 2*width+2, 30)
		}
		checkShown(t, j, 6, "a 1 7 3;b 1 -3 1;")
	}
}

// A checkpoint is under way until it is committed, and no less when it is complete.
func TestP11BusyUntilCommitted(t *testing.T) {
	j := newJob(t, 1, 1, exampleLog())
	checkTrigger(t, j, 1, api.OK)
	for task := range 3 {
		checkTrigger(t, j, 0, api.ErrBusy)
		checkSteps(t, j, task, api.OK)
	}
	checkTrigger(t, j, 0, api.ErrBusy)
	checkSteps(t, j, 3, api.OK)
	checkTrigger(t, j, 0, api.ErrBusy)
	checkSteps(t, j, 3, api.OK)
	checkTrigger(t, j, 2, api.OK)
}

// Trigger alone moves nothing: the source sends the barriers when it works.
func TestP11MovesNothing(t *testing.T) {
	j := newJob(t, 2, 1, exampleLog())
	checkSteps(t, j, 0, api.OK)
	checkTrigger(t, j, 1, api.OK)
	checkQueue(t, j, 0, 5)
	checkQueue(t, j, 1, 1)
	checkQueue(t, j, 2, 0)
	checkQueue(t, j, 3, 0, 0)
	checkQueue(t, j, 4, 0, 0)
	checkQueue(t, j, 5, 0)
	checkShown(t, j, 0, "")
}

func TestP13OneNumberForEachPipe(t *testing.T) {
	for width := 1; width <= 4; width++ {
		j := newJob(t, width, 4, logOf(put("a", 1, 5), put("aa", 1, 6), put("ab", 1, 7), put("ac", 1, 8)))
		for task := range 2*width + 2 {
			l, errno := j.Queue(task)
			want := 1
			if task > width && task <= 2*width {
				want = width
			}
			if len(l) != want || errno != api.OK {
				t.Errorf("Queue(%d) at width %d = %v, %d, want %d numbers", task, width, l, errno, want)
			}
		}
	}
}

// An adder's numbers stand in the order of the sorters.
func TestP13OrderOfSorters(t *testing.T) {
	// At width 2 the sorter of a is 1, that of aa is 2; the adder of both is 4.
	j := newJob(t, 2, 4, logOf(put("a", 1, 5), put("aa", 1, 6), put("aa", 2, 7), put("aa", 3, 8)))
	checkSteps(t, j, 0, api.OK, api.OK, api.OK, api.OK, api.ErrIdle)
	checkQueue(t, j, 1, 1)
	checkQueue(t, j, 2, 3)
	checkSteps(t, j, 1, api.OK, api.ErrIdle)
	checkQueue(t, j, 4, 1, 0)
	checkSteps(t, j, 2, api.OK, api.OK, api.OK, api.ErrIdle)
	checkQueue(t, j, 4, 1, 3)
	checkQueue(t, j, 3, 0, 0)
	checkSteps(t, j, 4, api.OK)
	checkQueue(t, j, 4, 0, 3)
}

// The keeper has one thing to do when all have done their part, and again when the checkpoint is complete.
func TestP13Keeper(t *testing.T) {
	j := newJob(t, 1, 1, exampleLog())
	checkTrigger(t, j, 1, api.OK)
	for task := range 3 {
		checkQueue(t, j, 3, 0)
		checkSteps(t, j, task, api.OK)
	}
	checkQueue(t, j, 3, 1)
	checkSteps(t, j, 3, api.OK)
	checkQueue(t, j, 3, 1)
	checkSteps(t, j, 3, api.OK)
	checkQueue(t, j, 3, 0)
	checkSteps(t, j, 3, api.ErrIdle)
}

// Queue tells the same however often it is asked.
func TestP13ChangesNothing(t *testing.T) {
	n := &numbers{59}
	p := newPair(t, 3, 2, exampleLog())
	for range 200 {
		for range 3 {
			p.compare()
		}
		p.step(n.next(8))
		if n.next(9) == 0 {
			p.trigger()
		}
		if n.next(40) == 0 {
			p.fail()
		}
	}
}

func TestP2ListsOfQueue(t *testing.T) {
	n := &numbers{61}
	for width := 1; width <= 4; width++ {
		p := newPair(t, width, 2, exampleLog())
		for range 200 {
			task := n.next(2*width + 2)
			want := p.m.queue(task)
			first, _ := p.j.Queue(task)
			second, _ := p.j.Queue(task)
			spoil(first)
			if !slices.Equal(second, want) || slices.Contains(second[:cap(second)], -77) {
				t.Fatalf("two answers of Queue(%d) share memory: %v, want %v", task, second[:cap(second)], want)
			}
			p.compare()
			// A list that was given stays as it is, whatever the job does behind it.
			kept := slices.Clone(second)
			p.step(n.next(2*width + 2))
			if n.next(9) == 0 {
				p.trigger()
			}
			if n.next(20) == 0 {
				p.fail()
			}
			if !slices.Equal(second, kept) {
				t.Fatalf("a list of Queue(%d) changed: %v, was %v", task, second, kept)
			}
		}
	}
}

// What a job answers hangs on no other job, of the same log or of another.
func TestP2JobsAreApart(t *testing.T) {
	n := &numbers{67}
	var pairs []*pair
	for width := 1; width <= 4; width++ {
		log, _ := n.log(40)
		pairs = append(pairs, newPair(t, width, 2, log), newPair(t, width, 2, log), newPair(t, width, 1, exampleLog()))
	}
	for range 2000 {
		p := pairs[n.next(len(pairs))]
		switch n.next(40) {
		case 0, 1, 2, 3:
			p.trigger()
		case 4:
			p.fail()
		default:
			p.step(n.next(2*p.m.width + 2))
		}
	}
	for _, p := range pairs {
		p.compare()
		p.settle()
	}
}

// Events that a caller has of Decode are not those of a job.
func TestP2EventsOfDecode(t *testing.T) {
	log := exampleLog()
	events, _, _ := canal.Decode(log)
	j := newJob(t, 2, 2, log)
	again, _, _ := canal.Decode(log)
	for _, l := range [][]api.Event{events, again} {
		for i := range l {
			l[i] = put("spoilt", 1, 1)
		}
	}
	rounds(j, 6, 30)
	checkTrigger(t, j, 1, api.OK)
	rounds(j, 6, 30)
	checkShown(t, j, 6, "a 1 7 3;b 1 -3 1;")
}

func TestP14AheadOfAndBehindACommit(t *testing.T) {
	j := newJob(t, 1, 2, logOf(put("a", 1, 5), put("b", 1, 7), put("a", 2, 6)))
	checkShown(t, j, 0, "")
	checkSteps(t, j, 0, api.OK)
	checkTrigger(t, j, 1, api.OK)
	for _, task := range []int{0, 1, 0, 1, 2, 2, 3} {
		checkSteps(t, j, task, api.OK)
		checkShown(t, j, 0, "")
	}
	checkSteps(t, j, 3, api.OK)
	checkShown(t, j, 1, "a 1 5 1;")
	checkSteps(t, j, 0, api.OK, api.ErrIdle)
	for range 9 {
		rounds(j, 4, 1)
		checkShown(t, j, 1, "a 1 5 1;")
	}
	checkTrigger(t, j, 2, api.OK)
	for _, task := range []int{0, 1, 2, 3} {
		checkSteps(t, j, task, api.OK)
		checkShown(t, j, 1, "a 1 5 1;")
	}
	checkSteps(t, j, 3, api.OK)
	checkShown(t, j, 3, "a 1 6 2;b 1 7 1;")
}

// A commit of what was committed shows it again.
func TestP14NothingNew(t *testing.T) {
	j := newJob(t, 2, 1, exampleLog())
	rounds(j, 6, 40)
	checkShown(t, j, 0, "")
	for number := 1; number <= 3; number++ {
		checkTrigger(t, j, number, api.OK)
		rounds(j, 6, 40)
		checkShown(t, j, 6, "a 1 7 3;b 1 -3 1;")
	}
	j = newJob(t, 4, 4, "")
	checkTrigger(t, j, 1, api.OK)
	rounds(j, 10, 40)
	checkTrigger(t, j, 2, api.OK)
	checkShown(t, j, 0, "")
}

// The offset counts events that do not count too.
func TestP14OffsetOfWhatDoesNotCount(t *testing.T) {
	j := newJob(t, 1, 1, logOf(put("a", 5, 1), put("a", 5, 2), put("a", 4, 3)))
	for sent := 1; sent <= 3; sent++ {
		checkSteps(t, j, 0, api.OK)
		checkTrigger(t, j, sent, api.OK)
		checkSteps(t, j, 1, api.OK)
		checkSteps(t, j, 0, api.OK)
		if sent == 1 {
			checkSteps(t, j, 2, api.OK)
		}
		checkSteps(t, j, 1, api.OK)
		checkSteps(t, j, 2, api.OK)
		checkSteps(t, j, 3, api.OK, api.OK, api.ErrIdle)
		checkShown(t, j, sent, "a 1 1 1;")
	}
}
