package flow

import (
	"strings"
	"testing"

	"canal/api"
	"canal/record"
)

// someLog has events of several groups, some of which do not count.
func someLog(t *testing.T) string {
	t.Helper()
	log := ""
	for n := range 40 {
		e := api.Event{Op: api.Put, Key: []string{"a", "b", "c", "d", "aa", "bb", "é"}[n%7], Seq: uint16(n - 9*(n%3)), Value: int16(n * n)}
		if n%5 == 0 {
			e.Op, e.Value = api.Drop, 0
		}
		s, errno := record.Encode(e)
		if errno != api.OK {
			t.Fatalf("Encode(%+v): %d", e, errno)
		}
		log += s
	}
	return log
}

// ofAdder is the part of a text of groups that tells of an adder's groups.
func ofAdder(text string, at int, width int) string {
	part := ""
	for _, group := range strings.SplitAfter(text, ";") {
		if group != "" && int([]rune(group)[0])%width == at {
			part += group
		}
	}
	return part
}

// checkAdders checks that adders know what the view shows, and that none of it is changed, which no call tells.
func checkAdders(t *testing.T, f *Flow) {
	t.Helper()
	for i := range f.adders {
		table := &f.adders[i].table
		if got, want := table.Text(), ofAdder(f.View(), i, len(f.adders)); got != want {
			t.Errorf("the adder at %d knows %q, want %q", i, got, want)
		}
		changed := table.TakeChanged()
		if got := changed.Text(); got != "" {
			t.Errorf("the adder at %d has changed groups: %q", i, got)
		}
	}
}

// Behind Fail each adder knows its groups as they are in the view, and none is changed (P12).
func TestFailLeavesNoGroupChanged(t *testing.T) {
	log := someLog(t)
	for width := 1; width <= api.MaxWidth; width++ {
		furthest := 0
		for calls := range 400 {
			f, errno := New(api.Config{Width: width, Room: 2}, log)
			if errno != api.OK {
				t.Fatalf("New: %d", errno)
			}
			for n := range calls {
				if n%60 == 30 {
					f.Trigger()
				}
				f.Step(n * 7 % (2*width + 2))
			}
			f.Fail()
			checkAdders(t, &f)
			furthest = max(furthest, f.Offset())
		}
		if furthest < 20 {
			t.Errorf("width %d: no commit was beyond %d events", width, furthest)
		}
	}
}

// A dropped checkpoint leaves nothing of what was laid ready for it (P12).
func TestFailLeavesNoCheckpoint(t *testing.T) {
	f, _ := New(api.Config{Width: 1, Room: 4}, someLog(t))
	f.Step(0)
	f.Step(1)
	f.Step(2)
	f.Trigger()
	for task := range 3 {
		f.Step(task)
	}
	if f.checkpoint.ready.Text() == "" || f.checkpoint.laid != 1 {
		t.Fatalf("nothing was laid ready: %+v", f.checkpoint)
	}
	f.Fail()
	if c := f.checkpoint; c.state != noCheckpoint || c.offset != 0 || c.laid != 0 || c.ready.Text() != "" {
		t.Errorf("a dropped checkpoint leaves %+v", c)
	}
}
