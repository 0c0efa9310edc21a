package canal_test

import (
	"fmt"
	"math"
	"slices"
	"strings"
	"testing"

	"canal/api"
	"canal/canal"
)

// logOf is the records of events, one behind the other.
func logOf(events ...api.Event) string {
	log := ""
	for _, e := range events {
		log += recordOf(e)
	}
	return log
}

// textOf tells a second way what events make: each group is counted anew from its keys, at the end.
func textOf(events []api.Event) string {
	last := map[string]api.Event{}
	counted := map[rune]int{}
	for _, e := range events {
		old, had := last[e.Key]
		ahead := (int(e.Seq) - int(old.Seq) + 65536) % 65536
		if had && (ahead == 0 || ahead >= 32768) {
			continue
		}
		last[e.Key] = e
		counted[[]rune(e.Key)[0]]++
	}
	var shown []rune
	for group := range counted {
		shown = append(shown, group)
	}
	slices.Sort(shown)
	text := ""
	for _, group := range shown {
		live, sum := 0, 0
		for k, e := range last {
			if []rune(k)[0] == group && e.Op == api.Put {
				live++
				sum += int(e.Value)
			}
		}
		sum = ((sum+32768)%65536+65536)%65536 - 32768
		text += fmt.Sprintf("%c %d %d %d;", group, live, sum, counted[group]%256)
	}
	return text
}

func checkFold(t *testing.T, log string, n int, want string, errno api.Errno) {
	t.Helper()
	if s, got := canal.Fold(log, n); s != want || got != errno {
		t.Errorf("Fold(%.80q, %d) = %q, %d, want %q, %d", log, n, s, got, want, errno)
	}
}

// checkEvents folds all of events.
func checkEvents(t *testing.T, want string, events ...api.Event) {
	t.Helper()
	checkFold(t, logOf(events...), len(events), want, api.OK)
}

// checkFoldAgainstSecond compares Fold at all numbers that may be, and the next ones, with the second way.
func checkFoldAgainstSecond(t *testing.T, log string) {
	t.Helper()
	events, _, errno := readAll(log)
	if errno == api.ErrLong {
		checkFold(t, log, 0, "", api.ErrLong)
		return
	}
	for n := range len(events) + 1 {
		checkFold(t, log, n, textOf(events[:n]), api.OK)
	}
	checkFold(t, log, -1, "", api.ErrArg)
	checkFold(t, log, len(events)+1, "", api.ErrArg)
}

// eventOf makes an event of one of keys, with a Seq from low on.
func (m *numbers) eventOf(keys []string, low int, seqs int) api.Event {
	e := m.event()
	e.Key = keys[m.next(len(keys))]
	e.Seq = uint16(low + m.next(seqs))
	return e
}

// eventsOf makes up to most events whose records fit into room bytes.
func (m *numbers) eventsOf(most int, room int, keys []string, low int, seqs int) []api.Event {
	var events []api.Event
	for range most {
		e := m.eventOf(keys, low, seqs)
		room -= len(recordOf(e))
		if room < 0 {
			break
		}
		events = append(events, e)
	}
	return events
}

func exampleLog() string {
	return logOf(put("a", 1, 5), put("ab", 1, 7), put("b", 9, -3), put("a", 1, 6), drop("a", 2), put("b", 65000, 1))
}

func TestP5Examples(t *testing.T) {
	log := exampleLog()
	checkFold(t, log, 0, "", api.OK)
	checkFold(t, log, 1, "a 1 5 1;", api.OK)
	checkFold(t, log, 2, "a 2 12 2;", api.OK)
	checkFold(t, log, 3, "a 2 12 2;b 1 -3 1;", api.OK)
	checkFold(t, log, 4, "a 2 12 2;b 1 -3 1;", api.OK)
	checkFold(t, log, 5, "a 1 7 3;b 1 -3 1;", api.OK)
	checkFold(t, log, 6, "a 1 7 3;b 1 -3 1;", api.OK)
	checkEvents(t, "a 2 -32768 2;", put("a", 1, 32767), put("ab", 1, 1))
	checkFold(t, "", 0, "", api.OK)
}

func TestP5Numbers(t *testing.T) {
	wrong := []int{-1, -2, -65536, -1 << 32, math.MinInt32, math.MinInt, math.MinInt + 6, 401, 1 << 16, 1 << 32, 1<<32 + 1, math.MaxInt32, math.MaxInt}
	for _, log := range []string{"", "x", exampleLog(), exampleLog() + "x", strings.Repeat("x", 400)} {
		events, _, _ := readAll(log)
		for _, n := range append(wrong, len(events)+1, len(events)+256) {
			checkFold(t, log, n, "", api.ErrArg)
		}
		checkFold(t, log, len(events), textOf(events), api.OK)
	}
}

func TestP5LogBounds(t *testing.T) {
	one := recordOf(put("a", 1, 5))
	full := strings.Repeat(one, 50)
	checkFold(t, full, 50, "a 1 5 1;", api.OK)
	checkFold(t, full, 51, "", api.ErrArg)
	for _, log := range []string{full + "x", full + one, strings.Repeat("x", 401), strings.Repeat(one, 1000000)} {
		checkFold(t, log, 0, "", api.ErrLong)
		checkFold(t, log, 1, "", api.ErrLong)
		checkFold(t, log, 50, "", api.ErrLong)
	}
}

func TestP1FirstErrorOfFold(t *testing.T) {
	for _, log := range []string{strings.Repeat("x", 401), strings.Repeat(recordOf(put("a", 1, 5)), 51)} {
		for _, n := range []int{-1, math.MinInt, 51, 52, math.MaxInt} {
			checkFold(t, log, n, "", api.ErrLong)
		}
	}
}

func TestP5PlaceWithoutRecord(t *testing.T) {
	ahead := logOf(put("a", 1, 5), drop("b", 2))
	behind := logOf(put("c", 1, 9))
	for _, wrong := range []string{"x", "\x00", "\x01", "\x02\x01a\x00\x02\x67", withCheck("\x03\x01a\x00\x01"), withCheck("\x02\x00\x00\x01"), withCheck("\x02\x01\xff\x00\x01")} {
		for _, log := range []string{ahead + wrong, ahead + wrong + behind} {
			checkFold(t, log, 0, "", api.OK)
			checkFold(t, log, 1, "a 1 5 1;", api.OK)
			checkFold(t, log, 2, "a 1 5 1;b 0 0 1;", api.OK)
			checkFold(t, log, 3, "", api.ErrArg)
		}
		checkFold(t, wrong+behind, 0, "", api.OK)
		checkFold(t, wrong+behind, 1, "", api.ErrArg)
	}
}

func TestP5PutsAndDrops(t *testing.T) {
	checkEvents(t, "a 1 0 1;", put("a", 1, 0))
	checkEvents(t, "a 0 0 1;", drop("a", 1))
	checkEvents(t, "a 0 0 1;", drop("a", 0))
	checkEvents(t, "a 1 1 1;", put("a", 0, 1))
	checkEvents(t, "a 1 1 1;", put("a", 65535, 1))
	checkEvents(t, "a 1 9 2;", put("a", 1, 5), put("a", 2, 9))
	checkEvents(t, "a 0 0 2;", put("a", 1, 5), drop("a", 2))
	checkEvents(t, "a 0 0 3;", put("a", 1, 5), drop("a", 2), drop("a", 3))
	checkEvents(t, "a 1 4 3;", put("a", 1, 5), drop("a", 2), put("a", 3, 4))
	checkEvents(t, "a 1 4 3;", drop("a", 1), drop("a", 2), put("a", 3, 4))
	// A key that was dropped is still known: what is not newer does not bring it back.
	checkEvents(t, "a 0 0 1;", drop("a", 5), put("a", 4, 9))
	checkEvents(t, "a 0 0 1;", drop("a", 5), put("a", 5, 9))
	checkEvents(t, "a 0 0 2;", put("a", 1, 5), drop("a", 3), put("a", 2, 9))
	checkEvents(t, "a 1 5 1;", put("a", 3, 5), drop("a", 3), drop("a", 2))
}

func TestP5WhatDoesNotCountChangesNothing(t *testing.T) {
	// Seq 4 is not newer than 5; were it kept all the same, the 5 behind it would count.
	checkEvents(t, "a 1 1 1;", put("a", 5, 1), put("a", 4, 2), put("a", 5, 3))
	checkEvents(t, "a 1 1 1;", put("a", 5, 1), drop("a", 4), put("a", 5, 3))
	// 32768 does not count behind 0; were it kept, 32769 would count, and 1 would not.
	checkEvents(t, "a 1 1 1;", put("a", 0, 1), put("a", 32768, 2), put("a", 32769, 3))
	checkEvents(t, "a 1 4 2;", put("a", 0, 1), put("a", 32768, 2), put("a", 1, 4))
}

func TestP5NewerIsSaidOfOneKey(t *testing.T) {
	checkEvents(t, "a 2 3 2;", put("a", 9, 1), put("ab", 3, 2))
	checkEvents(t, "a 3 7 4;", put("a", 9, 1), put("ab", 3, 2), put("abc", 3, 4), put("a", 8, 8), put("ab", 4, 2))
	checkEvents(t, "a 1 1 1;b 1 2 1;", put("a", 9, 1), put("b", 3, 2))
}

func TestP5SeqsThatWrap(t *testing.T) {
	for _, first := range []int{0, 1, 2, 5, 9, 255, 256, 32766, 32767, 32768, 32769, 65000, 65534, 65535} {
		for step := range 65536 {
			second := put("a", uint16(first+step), 2)
			want := "a 1 1 1;"
			if step >= 1 && step <= 32767 {
				want = "a 1 2 2;"
			}
			checkEvents(t, want, put("a", uint16(first), 1), second)
		}
	}
	checkEvents(t, "a 1 4 4;", put("a", 0, 1), put("a", 30000, 2), put("a", 60000, 3), put("a", 20000, 4))
	checkEvents(t, "a 0 0 2;", put("a", 65535, 1), drop("a", 0))
	checkEvents(t, "a 1 1 1;", put("a", 0, 1), drop("a", 65535))
}

func TestP5SumWraps(t *testing.T) {
	checkEvents(t, "a 2 32767 2;", put("a", 1, -32768), put("ab", 1, -1))
	checkEvents(t, "a 2 0 2;", put("a", 1, -32768), put("ab", 1, -32768))
	checkEvents(t, "a 2 -2 2;", put("a", 1, 32767), put("ab", 1, 32767))
	checkEvents(t, "a 2 -1 2;", put("a", 1, 32767), put("ab", 1, -32768))
	// The step from one value to the next wraps too.
	checkEvents(t, "a 1 32767 2;", put("a", 1, -32768), put("a", 2, 32767))
	checkEvents(t, "a 1 -32768 2;", put("a", 1, 32767), put("a", 2, -32768))
	checkEvents(t, "a 0 0 2;", put("a", 1, -32768), drop("a", 2))
	// It comes back from the wrap.
	checkEvents(t, "a 1 1 3;", put("a", 1, 32767), put("ab", 1, 1), drop("a", 2))
	checkEvents(t, "a 3 32767 3;", put("a", 1, 32767), put("ab", 1, 1), put("ac", 1, -1))
}

// A log has room for 66 events, so Events stays below 256 in it: the wrap is tested in package groups.
func TestP5MostEvents(t *testing.T) {
	var events []api.Event
	for seq := range 66 {
		events = append(events, drop("a", uint16(seq)))
	}
	checkEvents(t, "a 0 0 66;", events...)
	for seq := range 66 {
		events[seq].Key = string(rune(66 - seq))
	}
	checkEvents(t, textOf(events), events...)
	events = nil
	for n := range 44 {
		events = append(events, put(string([]byte{'k', byte(n)}), uint16(n), int16(n)))
	}
	checkEvents(t, "k 44 946 44;", events...)
}

func TestP5KeysOfOneGroup(t *testing.T) {
	checkEvents(t, "a 3 12 3;", put("a", 1, 3), put("aa", 1, 4), put("ab", 1, 5))
	checkEvents(t, "é 2 7 2;", put("é", 1, 3), put("ét", 1, 4))
	checkEvents(t, "😀 2 7 3;", put("😀😀", 1, 3), put("😀", 1, 4), drop("😀a", 1))
	checkEvents(t, "\uFFFD 2 7 2;", put("\uFFFD", 1, 3), put("\uFFFD\uFFFD", 1, 4))
	// The group is the first code point, not the first byte: é and è begin with the same byte.
	checkEvents(t, "è 1 4 1;é 1 3 1;", put("\u00e9", 1, 3), put("\u00e8", 1, 4))
	// An e with an accent behind it is two code points: its group is e.
	checkEvents(t, "e 1 4 1;é 1 3 1;", put("é", 1, 3), put("e\u0301", 1, 4))
	checkEvents(t, "a 1 3 1;b 1 4 1;", put("ab", 1, 3), put("ba", 1, 4))
	// A capital is a group of its own.
	checkEvents(t, "A 1 4 1;a 1 3 1;", put("a", 1, 3), put("A", 1, 4))
}

func TestP5OrderOfGroups(t *testing.T) {
	points := []rune{0, 1, ' ', '-', '0', ';', 'A', 'Z', 'a', 'z', 0x7f, 0x80, 'é', 0x7ff, 0x800, '€', 0xd7ff, 0xe000, 0xfffd, 0xffff, 0x10000, '😀', 0x10ffff}
	for _, a := range points {
		for _, b := range points {
			if a < b {
				want := string(a) + " 1 -7 1;" + string(b) + " 0 0 1;"
				checkEvents(t, want, put(string(a), 1, -7), drop(string(b), 1))
				checkEvents(t, want, drop(string(b), 1), put(string(a), 1, -7))
			}
		}
	}
	m := &numbers{13}
	for range 200 {
		var events []api.Event
		for range 22 {
			events = append(events, put(string(points[m.next(len(points))])+"k", 1, int16(m.next(9)-4)))
		}
		checkEvents(t, textOf(events), events...)
	}
}

func TestP5AllCodePoints(t *testing.T) {
	for point := rune(0); point <= 0x10ffff; point++ {
		if point < 0xd800 || point > 0xdfff {
			checkEvents(t, string(point)+" 1 10 1;", put(string(point), 1, 10))
		}
	}
}

func TestP5AgainstSecond(t *testing.T) {
	m := &numbers{17}
	few := []string{"a", "b", "ab", "é", "éa"}
	for range 300 {
		checkFoldAgainstSecond(t, logOf(m.eventsOf(70, 400, few, 0, 6)...))
		checkFoldAgainstSecond(t, logOf(m.eventsOf(70, 400, few, 0, 65536)...))
		checkFoldAgainstSecond(t, logOf(m.eventsOf(70, 400, few, 65533, 6)...))
		checkFoldAgainstSecond(t, logOf(m.eventsOf(70, 400, few, 32765, 6)...))
		checkFoldAgainstSecond(t, logOf(m.eventsOf(70, 400, someKeys, 0, 65536)...))
	}
}

func TestP5AgainstSecondInCutLogs(t *testing.T) {
	m := &numbers{19}
	for range 5 {
		log, _ := m.log(100)
		for n := range len(log) + 1 {
			checkFoldAgainstSecond(t, log[:n])
		}
		for at := range len(log) {
			checkFoldAgainstSecond(t, log[:at]+string([]byte{log[at] + 1})+log[at+1:])
		}
	}
}

func TestP1FoldOfAnyBytes(t *testing.T) {
	m := &numbers{23}
	for range 5000 {
		checkFoldAgainstSecond(t, m.bytes())
		_, ahead := m.log(20)
		checkFoldAgainstSecond(t, logOf(ahead...)+m.bytes())
	}
}

func TestP2FoldSameAgain(t *testing.T) {
	m := &numbers{29}
	log := exampleLog()
	for range 100 {
		other, events := m.log(m.next(60))
		canal.Fold(other, m.next(len(events)+1))
		canal.Fold(other, -1)
		canal.Fold(strings.Repeat("x", 401), 0)
		checkFold(t, log, 3, "a 2 12 2;b 1 -3 1;", api.OK)
		checkFold(t, log, 6, "a 1 7 3;b 1 -3 1;", api.OK)
	}
}

func TestP15TwiceCountsOnce(t *testing.T) {
	m := &numbers{31}
	for range 3000 {
		events := m.eventsOf(m.next(40), 200, someKeys, 0, 32768)
		log := logOf(events...)
		once, errno := canal.Fold(log, len(events))
		if errno != api.OK || once != textOf(events) {
			t.Fatalf("Fold(%q, %d) = %q, %d, want %q", log, len(events), once, errno, textOf(events))
		}
		for n := len(events); n <= 2*len(events); n++ {
			checkFold(t, log+log, n, once, api.OK)
		}
	}
	// From 32768 on, what comes again may be newer, and counts again.
	events := []api.Event{put("a", 0, 1), put("a", 30000, 2), put("a", 60000, 3)}
	checkEvents(t, "a 1 3 6;", append(events, events...)...)
}
