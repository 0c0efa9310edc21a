// Package groups: what is known of groups, and its text.
package groups

import "strconv"

// Change is what an event that counts makes of its key's group.
type Change struct {
	Group rune
	Live  int   // 1, 0 or -1
	Sum   int16 // what is to be added, wrapping
}

// group is what is known of a shown group.
type group struct {
	point  rune
	live   int
	sum    int16
	events uint8
}

// Table is what is known of the shown groups, the least code point first.
type Table struct {
	list []group
}

// Add counts a change. Its group is shown from then on, even if Events wraps to 0.
func (t *Table) Add(c Change) {
	at := t.place(c.Group)
	if at == len(t.list) || t.list[at].point != c.Group {
		t.insert(at, group{point: c.Group})
	}
	g := &t.list[at]
	g.live += c.Live
	g.sum += c.Sum
	g.events++
}

// place tells where the group stands in the list or, if it is not there, would stand.
func (t *Table) place(point rune) int {
	at := 0
	for at < len(t.list) && t.list[at].point < point {
		at++
	}
	return at
}

// insert lays g into the list at a place that place told.
func (t *Table) insert(at int, g group) {
	t.list = append(t.list, g)
	for i := len(t.list) - 1; i > at; i-- {
		t.list[i] = t.list[i-1]
	}
	t.list[at] = g
}

// Text is the text of groups.
func (t *Table) Text() string {
	text := ""
	for i := 0; i < len(t.list); i++ {
		text += t.list[i].text()
	}
	return text
}

// text is what the text of groups says of one group.
func (g group) text() string {
	return string(g.point) + " " + strconv.Itoa(g.live) + " " + strconv.Itoa(int(g.sum)) + " " + strconv.Itoa(int(g.events)) + ";"
}
