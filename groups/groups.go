// Package groups: what is known of groups, and its text.
package groups

import "strconv"

// Change is what an event that counts makes of its key's group.
type Change struct {
	Group rune
	Live  int   // 1, 0 or -1
	Sum   int16 // what is to be added, wrapping
}

// group is what is known of a shown group.
type group struct {
	point   rune
	live    int
	sum     int16
	events  uint8
	changed bool // by Add, since TakeChanged was last called
}

// Table is what is known of the shown groups, the least code point first.
type Table struct {
	list []group
}

// Add counts a change. Its group is shown from then on, even if Events wraps to 0.
func (t *Table) Add(c Change) {
	at := t.home(c.Group)
	g := &t.list[at]
	g.live += c.Live
	g.sum += c.Sum
	g.events++
	g.changed = true
}

// TakeChanged gives the groups that are changed, as they are now, in memory of their own; from then on they are not changed any more.
func (t *Table) TakeChanged() Table {
	var taken Table
	for i := 0; i < len(t.list); i++ {
		if t.list[i].changed {
			t.list[i].changed = false
			taken.list = append(taken.list, t.list[i])
		}
	}
	return taken
}

// Lay lays the groups of over upon those of t: each takes the place of what t knew of it.
func (t *Table) Lay(over *Table) {
	for i := 0; i < len(over.list); i++ {
		at := t.home(over.list[i].point)
		t.list[at] = over.list[i]
	}
}

// home tells where the group stands in the list; if it was not there, it is from then on, with nothing counted.
func (t *Table) home(point rune) int {
	at := t.place(point)
	if at == len(t.list) || t.list[at].point != point {
		t.insert(at, group{point: point})
	}
	return at
}

// place tells where the group stands in the list or, if it is not there, would stand.
func (t *Table) place(point rune) int {
	at := 0
	for at < len(t.list) && t.list[at].point < point {
		at++
	}
	return at
}

// insert lays g into the list at a place that place told.
func (t *Table) insert(at int, g group) {
	t.list = append(t.list, g)
	for i := len(t.list) - 1; i > at; i-- {
		t.list[i] = t.list[i-1]
	}
	t.list[at] = g
}

// Text is the text of groups.
func (t *Table) Text() string {
	text := ""
	for i := 0; i < len(t.list); i++ {
		text += t.list[i].text()
	}
	return text
}

// text is what the text of groups says of one group.
func (g group) text() string {
	return string(g.point) + " " + strconv.Itoa(g.live) + " " + strconv.Itoa(int(g.sum)) + " " + strconv.Itoa(int(g.events)) + ";"
}
