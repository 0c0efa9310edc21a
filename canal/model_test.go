package canal_test

import (
	"hash/fnv"
	"slices"
	"testing"

	"canal/api"
	"canal/canal"
)

// barrier stands for itself in the model's pipes; all else there is the place of an event in the log.
const barrier = -1

// model is a job told a second way: pipes hold places in the log alone, what counts is found by going through all that a sorter took, and the view is what the first events of the log make (P15).
type model struct {
	width, room int
	events      []api.Event
	sent        int
	toSorter    [][]int   // by sorter
	took        [][]int   // by sorter
	atBarrier   [][]int   // what each sorter had taken when it sent on the last barrier
	kept        [][]int   // the same, of the last checkpoint that was committed
	toAdder     [][][]int // by adder, then by sorter
	stopped     [][]bool  // by adder, then by sorter
	underWay    bool
	began       bool   // the source has sent barriers
	passed      []bool // by sorter
	laid        []bool // by adder
	complete    bool
	ahead       int // events ahead of the barriers
	number      int
	offset      int
}

func newModel(width int, room int, log string) *model {
	m := &model{width: width, room: room}
	m.events, _, _ = readAll(log)
	m.took = make([][]int, width)
	m.atBarrier = make([][]int, width)
	m.kept = make([][]int, width)
	m.forgetPipes()
	m.forgetCheckpoint()
	return m
}

func (m *model) forgetPipes() {
	m.toSorter = make([][]int, m.width)
	m.toAdder, m.stopped = nil, nil
	for range m.width {
		m.toAdder = append(m.toAdder, make([][]int, m.width))
		m.stopped = append(m.stopped, make([]bool, m.width))
	}
}

func (m *model) forgetCheckpoint() {
	m.underWay, m.began, m.complete = false, false, false
	m.passed, m.laid = make([]bool, m.width), make([]bool, m.width)
}

func sorterOf(key string, width int) int {
	h := fnv.New32a()
	h.Write([]byte(key))
	return 1 + int(h.Sum32()%uint32(width))
}

func adderOf(key string, width int) int {
	return width + 1 + int([]rune(key)[0])%width
}

func (m *model) step(task int) api.Errno {
	switch {
	case task < 0 || task > 2*m.width+1:
		return api.ErrTask
	case task == 0:
		return m.stepSource()
	case task <= m.width:
		return m.stepSorter(task - 1)
	case task <= 2*m.width:
		return m.stepAdder(task - m.width - 1)
	}
	return m.stepKeeper()
}

func (m *model) stepSource() api.Errno {
	if m.underWay && !m.began {
		for s := range m.width {
			if len(m.toSorter[s]) == m.room {
				return api.ErrFull
			}
		}
		for s := range m.width {
			m.toSorter[s] = append(m.toSorter[s], barrier)
		}
		m.began, m.ahead = true, m.sent
		return api.OK
	}
	if m.sent == len(m.events) {
		return api.ErrIdle
	}
	s := sorterOf(m.events[m.sent].Key, m.width) - 1
	if len(m.toSorter[s]) == m.room {
		return api.ErrFull
	}
	m.toSorter[s] = append(m.toSorter[s], m.sent)
	m.sent++
	return api.OK
}

// counts goes through all that the sorter took.
func (m *model) counts(s int, event int) bool {
	had, last := false, 0
	for _, n := range append(slices.Clone(m.took[s]), event) {
		e := m.events[n]
		if e.Key != m.events[event].Key {
			continue
		}
		ahead := (int(e.Seq) - last + 65536) % 65536
		isNewer := !had || ahead > 0 && ahead < 32768
		if n == event {
			return isNewer
		}
		if isNewer {
			had, last = true, int(e.Seq)
		}
	}
	return false
}

func (m *model) stepSorter(s int) api.Errno {
	if len(m.toSorter[s]) == 0 {
		return api.ErrIdle
	}
	item := m.toSorter[s][0]
	var to []int
	switch {
	case item == barrier:
		for a := range m.width {
			to = append(to, a)
		}
	case m.counts(s, item):
		to = []int{adderOf(m.events[item].Key, m.width) - m.width - 1}
	}
	for _, a := range to {
		if len(m.toAdder[a][s]) == m.room {
			return api.ErrFull
		}
	}
	m.toSorter[s] = m.toSorter[s][1:]
	for _, a := range to {
		m.toAdder[a][s] = append(m.toAdder[a][s], item)
	}
	if item == barrier {
		m.passed[s] = true
		m.atBarrier[s] = slices.Clone(m.took[s])
	} else {
		m.took[s] = append(m.took[s], item)
	}
	return api.OK
}

func (m *model) stepAdder(a int) api.Errno {
	for s := range m.width {
		if m.stopped[a][s] || len(m.toAdder[a][s]) == 0 {
			continue
		}
		item := m.toAdder[a][s][0]
		m.toAdder[a][s] = m.toAdder[a][s][1:]
		if item == barrier {
			m.stopped[a][s] = true
		}
		if !slices.Contains(m.stopped[a], false) {
			m.stopped[a] = make([]bool, m.width)
			m.laid[a] = true
		}
		return api.OK
	}
	return api.ErrIdle
}

func (m *model) keeperWork() int {
	done := m.began && !slices.Contains(m.passed, false) && !slices.Contains(m.laid, false)
	if m.underWay && (done || m.complete) {
		return 1
	}
	return 0
}

func (m *model) stepKeeper() api.Errno {
	if m.keeperWork() == 0 {
		return api.ErrIdle
	}
	if !m.complete {
		m.complete = true
		return api.OK
	}
	m.commit()
	return api.OK
}

func (m *model) commit() {
	m.offset = m.ahead
	for s := range m.width {
		m.kept[s] = slices.Clone(m.atBarrier[s])
	}
	m.forgetCheckpoint()
}

func (m *model) fail() {
	if m.complete {
		m.commit()
	}
	m.forgetCheckpoint()
	m.forgetPipes()
	m.sent = m.offset
	for s := range m.width {
		m.took[s] = slices.Clone(m.kept[s])
	}
}

func (m *model) trigger() (int, api.Errno) {
	if m.underWay {
		return 0, api.ErrBusy
	}
	m.underWay = true
	m.number++
	return m.number, api.OK
}

func (m *model) queue(task int) []int {
	switch {
	case task == 0:
		return []int{len(m.events) - m.sent}
	case task <= m.width:
		return []int{len(m.toSorter[task-1])}
	case task <= 2*m.width:
		var l []int
		for s := range m.width {
			l = append(l, len(m.toAdder[task-m.width-1][s]))
		}
		return l
	}
	return []int{m.keeperWork()}
}

// pair is a job and its model, which are asked the same.
type pair struct {
	t    *testing.T
	log  string
	j    *canal.Job
	m    *model
	last int // the offset that the job told last
}

func newPair(t *testing.T, width int, room int, log string) *pair {
	t.Helper()
	p := &pair{t: t, log: log, j: newJob(t, width, room, log), m: newModel(width, room, log)}
	p.compare()
	return p
}

// compare compares all that can be seen.
func (p *pair) compare() {
	p.t.Helper()
	for task := range 2*p.m.width + 2 {
		checkQueue(p.t, p.j, task, p.m.queue(task)...)
	}
	checkNoQueue(p.t, p.j, -1)
	checkNoQueue(p.t, p.j, 2*p.m.width+2)
	checkShown(p.t, p.j, p.m.offset, textOf(p.m.events[:p.m.offset]))
	p.checkFollows()
	if p.t.Failed() {
		p.t.Fatalf("width %d, room %d, log %+v", p.m.width, p.m.room, p.m.events)
	}
}

// checkFollows checks what P15 says of a job at any moment, from the calls alone.
func (p *pair) checkFollows() {
	p.t.Helper()
	offset, view := p.j.Offset(), p.j.View()
	text, errno := canal.Fold(p.log, offset)
	if errno != api.OK || view != text || offset < p.last {
		p.t.Errorf("Offset() = %d (was %d), View() = %q, Fold %q, %d", offset, p.last, view, text, errno)
	}
	p.last = offset
}

func (p *pair) step(task int) api.Errno {
	p.t.Helper()
	want := p.m.step(task)
	if got := p.j.Step(task); got != want {
		p.t.Fatalf("Step(%d) = %d, want %d; width %d, room %d, log %+v", task, got, want, p.m.width, p.m.room, p.m.events)
	}
	p.compare()
	return want
}

func (p *pair) trigger() {
	p.t.Helper()
	n, want := p.m.trigger()
	checkTrigger(p.t, p.j, n, want)
	p.compare()
}

func (p *pair) fail() {
	p.t.Helper()
	p.m.fail()
	p.j.Fail()
	p.compare()
}

// settle does rounds as P15 says, from whatever was done.
func (p *pair) settle() {
	p.t.Helper()
	tasks := 2*p.m.width + 2
	rounds(p.j, tasks, 50+3*len(p.m.events))
	for task := range tasks {
		checkSteps(p.t, p.j, task, api.ErrIdle)
	}
	checkTrigger(p.t, p.j, p.m.number+1, api.OK)
	rounds(p.j, tasks, 30)
	checkShown(p.t, p.j, len(p.m.events), textOf(p.m.events))
	if p.t.Failed() {
		p.t.Fatalf("width %d, room %d, log %+v", p.m.width, p.m.room, p.m.events)
	}
}

// rounds lets each task step once, so many times.
func rounds(j *canal.Job, tasks int, times int) {
	for range times {
		for task := range tasks {
			j.Step(task)
		}
	}
}

// busy draws a task: those of one kind work more than the others.
func (n *numbers) busy(width int, kind int) int {
	if n.next(2) == 0 {
		return n.next(2*width + 2)
	}
	switch kind {
	case 0:
		return 0
	case 1:
		return 1 + n.next(width)
	case 2:
		return width + 1 + n.next(width)
	}
	return 2*width + 1
}

// TestP15AgainstModel compares jobs at all configurations with the model, whoever works when.
func TestP15AgainstModel(t *testing.T) {
	n := &numbers{37}
	few := []string{"a", "aa", "b", "ab", "é", "zz"}
	for round := range 12 {
		for width := 1; width <= 4; width++ {
			for room := 1; room <= 4; room++ {
				events := n.eventsOf(n.next(45), 400, few, n.next(2)*65530, 12)
				if round%3 == 0 {
					events = n.eventsOf(66, 400, someKeys, 0, 65536)
				}
				p := newPair(t, width, room, logOf(events...))
				// Some jobs never fail, some fail now and then, some often.
				failing := []int{0, 1, 3, 30}[round%4]
				for range 300 {
					switch n.next(12) {
					case 0:
						p.trigger()
					case 1:
						p.step(n.next(4*width+8) - width - 2)
					default:
						p.step(n.busy(width, round%5))
					}
					if n.next(100) < failing {
						p.fail()
					}
				}
				p.settle()
			}
		}
	}
}

// TestP15RoundsFromEachPlace lets a job go on by rounds alone from each place of an uneven run, with a checkpoint and a Fail somewhere in it.
func TestP15RoundsFromEachPlace(t *testing.T) {
	n := &numbers{41}
	for range 40 {
		width, room := 1+n.next(4), 1+n.next(4)
		log := logOf(n.eventsOf(n.next(30), 400, someKeys, 0, 9)...)
		var tasks []int
		for range n.next(60) {
			tasks = append(tasks, n.busy(width, n.next(5)))
		}
		at, failAt := n.next(len(tasks)+1), n.next(len(tasks)+1)
		for end := range len(tasks) + 1 {
			p := newPair(t, width, room, log)
			for i, task := range tasks[:end] {
				if i == at {
					p.trigger()
				}
				if i == failAt {
					p.fail()
				}
				p.step(task)
			}
			p.settle()
		}
	}
}

// sentOf tells how many of so many events a job's source has sent.
func sentOf(t *testing.T, j *canal.Job, events int) int {
	t.Helper()
	l, errno := j.Queue(0)
	if len(l) != 1 || errno != api.OK {
		t.Fatalf("Queue(0) = %v, %d", l, errno)
	}
	return events - l[0]
}

// bring lets a job commit at an offset, behind a script that is drawn, with Fail and other checkpoints in it.
func (n *numbers) bring(t *testing.T, j *canal.Job, width int, events int, offset int) {
	t.Helper()
	number := 0
	for range n.next(120) {
		switch n.next(20) {
		case 0:
			j.Fail()
		case 1, 2:
			if _, errno := j.Trigger(); errno == api.OK {
				number++
			}
		default:
			task := n.next(2*width + 2)
			if task > 0 || sentOf(t, j, events) < offset {
				j.Step(task)
			}
		}
	}
	j.Fail()
	for try := 0; sentOf(t, j, events) < offset && try < 10000; try++ {
		j.Step(n.next(2*width + 2))
	}
	commit(t, j, width, number+1)
}

// TestP15SameOffsetSameView compares jobs of one log at all configurations, each with its own script.
func TestP15SameOffsetSameView(t *testing.T) {
	n := &numbers{43}
	for range 10 {
		log, events := n.log(50)
		for at := range len(events) + 1 {
			want, errno := canal.Fold(log, at)
			if errno != api.OK || want != textOf(events[:at]) {
				t.Fatalf("Fold(%q, %d) = %q, %d", log, at, want, errno)
			}
			for width := 1; width <= 4; width++ {
				j := newJob(t, width, 1+n.next(4), log)
				n.bring(t, j, width, len(events), at)
				checkShown(t, j, at, want)
			}
		}
	}
}
