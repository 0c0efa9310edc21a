// Package canal: a log of changes that flows through many hands, and is counted just once: see DOC.md.
package canal

import (
	"canal/api"
	"canal/flow"
	"canal/fold"
	"canal/record"
)

// Encode writes an event as a record (P3).
func Encode(e api.Event) (string, api.Errno) { return record.Encode(e) }

// Decode reads the records of a log (P4).
func Decode(log string) ([]api.Event, int, api.Errno) { return record.Decode(log) }

// Fold tells what the first events of a log make (P5).
func Fold(log string, n int) (string, api.Errno) { return fold.Fold(log, n) }

// Job is a log that flows.
type Job struct {
	flow flow.Flow
}

// New makes a job (P6).
func New(c api.Config, log string) (*Job, api.Errno) {
	made, errno := flow.New(c, log)
	if errno != api.OK {
		return nil, errno
	}
	return &Job{flow: made}, api.OK
}

// Step lets a task do one thing (P7 to P10).
func (j *Job) Step(task int) api.Errno { return j.flow.Step(task) }

// Trigger begins a checkpoint (P11).
func (j *Job) Trigger() (int, api.Errno) { return j.flow.Trigger() }

// Fail lets all tasks forget (P12).
func (j *Job) Fail() { j.flow.Fail() }

// Queue tells how much waits for a task (P13).
func (j *Job) Queue(task int) ([]int, api.Errno) { return j.flow.Queue(task) }

// Offset tells how many events are counted in the view (P14).
func (j *Job) Offset() int { return j.flow.Offset() }

// View tells what is counted (P14).
func (j *Job) View() string { return j.flow.View() }
