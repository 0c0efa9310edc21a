package groups

import (
	"fmt"
	"testing"
)

func check(t *testing.T, table *Table, want string) {
	t.Helper()
	if got := table.Text(); got != want {
		t.Errorf("Text() = %q, want %q", got, want)
	}
}

func TestNoGroups(t *testing.T) {
	check(t, &Table{}, "")
}

func TestEventsWrap(t *testing.T) {
	var table Table
	for n := 1; n <= 1000; n++ {
		table.Add(Change{Group: 'a'})
		// At 256 events it tells 0, and the group is shown nevertheless.
		check(t, &table, fmt.Sprintf("a 0 0 %d;", n%256))
	}
	table.Add(Change{Group: 'b', Live: 1, Sum: 2})
	check(t, &table, "a 0 0 232;b 1 2 1;")
}

func TestSumWraps(t *testing.T) {
	for sum := -32768; sum <= 32767; sum++ {
		for _, more := range []int{-32768, -1, 0, 1, 32767} {
			var table Table
			table.Add(Change{Group: 'a', Sum: int16(sum)})
			table.Add(Change{Group: 'a', Sum: int16(more)})
			want := sum + more
			if want > 32767 {
				want -= 65536
			}
			if want < -32768 {
				want += 65536
			}
			check(t, &table, fmt.Sprintf("a 0 %d 2;", want))
		}
	}
}

func TestLive(t *testing.T) {
	var table Table
	for n := 1; n <= 66; n++ {
		table.Add(Change{Group: 'a', Live: 1})
		check(t, &table, fmt.Sprintf("a %d 0 %d;", n, n))
	}
	for n := 65; n >= 0; n-- {
		table.Add(Change{Group: 'a', Live: -1})
		check(t, &table, fmt.Sprintf("a %d 0 %d;", n, 132-n))
	}
	table.Add(Change{Group: 'a', Live: 0})
	check(t, &table, "a 0 0 133;")
}

func TestOrder(t *testing.T) {
	points := []rune{0, 'a', 'é', '\uFFFD', '😀'}
	want := "\x00 1 0 1;a 1 1 1;é 1 2 1;\uFFFD 1 3 1;😀 1 4 1;"
	for first := range points {
		for step := 1; step < len(points); step++ {
			var table Table
			for n := range points {
				at := (first + n*step) % len(points)
				table.Add(Change{Group: points[at], Live: 1, Sum: int16(at)})
			}
			check(t, &table, want)
		}
	}
}

// The change of one group leaves those beside it as they are, whichever it is.
func TestGroupsBesideIt(t *testing.T) {
	for _, point := range "bdf" {
		var table Table
		table.Add(Change{Group: 'd', Live: 1, Sum: 4})
		table.Add(Change{Group: 'f', Live: 1, Sum: 6})
		table.Add(Change{Group: 'b', Live: 1, Sum: 2})
		table.Add(Change{Group: point, Live: -1, Sum: -30})
		want := ""
		for i, other := range "bdf" {
			if other == point {
				want += fmt.Sprintf("%c 0 %d 2;", other, 2*i+2-30)
			} else {
				want += fmt.Sprintf("%c 1 %d 1;", other, 2*i+2)
			}
		}
		check(t, &table, want)
	}
}

// checkChanged checks what TakeChanged gives, and that it is not given again.
func checkChanged(t *testing.T, table *Table, want string) {
	t.Helper()
	for _, w := range []string{want, ""} {
		changed := table.TakeChanged()
		check(t, &changed, w)
	}
}

func TestChanged(t *testing.T) {
	var table Table
	checkChanged(t, &table, "")
	table.Add(Change{Group: 'b', Live: 1, Sum: 2})
	checkChanged(t, &table, "b 1 2 1;")
	table.Add(Change{Group: 'c', Live: 1, Sum: 3})
	table.Add(Change{Group: 'a', Live: 1, Sum: 1})
	table.Add(Change{Group: 'a', Live: 1, Sum: 1})
	checkChanged(t, &table, "a 2 2 2;c 1 3 1;")
	// A group is changed by its event, even if Live and Sum stay.
	table.Add(Change{Group: 'b'})
	checkChanged(t, &table, "b 1 2 2;")
	check(t, &table, "a 2 2 2;b 1 2 2;c 1 3 1;")
}

// What was taken stays as it was when the table goes on.
func TestChangedInOwnMemory(t *testing.T) {
	var table Table
	table.Add(Change{Group: 'b', Live: 1, Sum: 2})
	table.Add(Change{Group: 'c', Live: 1, Sum: 3})
	changed := table.TakeChanged()
	table.Add(Change{Group: 'b', Live: -1, Sum: 9})
	table.Add(Change{Group: 'a', Live: 1, Sum: 1})
	check(t, &changed, "b 1 2 1;c 1 3 1;")
	changed.Add(Change{Group: 'c', Live: 1, Sum: 3})
	check(t, &table, "a 1 1 1;b 0 11 2;c 1 3 1;")
}

func TestLay(t *testing.T) {
	var view, first, second Table
	view.Lay(&first)
	check(t, &view, "")
	first.Add(Change{Group: 'b', Live: 1, Sum: 2})
	first.Add(Change{Group: 'd', Live: 1, Sum: 4})
	view.Lay(&first)
	check(t, &view, "b 1 2 1;d 1 4 1;")
	// Laid over is put in the place of what was there, not added to it.
	view.Lay(&first)
	check(t, &view, "b 1 2 1;d 1 4 1;")
	second.Add(Change{Group: 'e', Live: 0, Sum: 0})
	second.Add(Change{Group: 'd', Live: 0, Sum: -9})
	second.Add(Change{Group: 'a', Live: 1, Sum: 1})
	view.Lay(&second)
	check(t, &view, "a 1 1 1;b 1 2 1;d 0 -9 1;e 0 0 1;")
	check(t, &first, "b 1 2 1;d 1 4 1;")
	check(t, &second, "a 1 1 1;d 0 -9 1;e 0 0 1;")
	first.Add(Change{Group: 'b', Live: 1, Sum: 2})
	check(t, &view, "a 1 1 1;b 1 2 1;d 0 -9 1;e 0 0 1;")
}
