package canal_test

import (
	"math"
	"slices"
	"strings"
	"testing"
	"unicode/utf8"

	"canal/api"
	"canal/canal"
)

func put(key string, seq uint16, value int16) api.Event {
	return api.Event{Op: api.Put, Key: key, Seq: seq, Value: value}
}

func drop(key string, seq uint16) api.Event {
	return api.Event{Op: api.Drop, Key: key, Seq: seq}
}

// recordOf writes a record from the document's words alone, with no check of the event.
func recordOf(e api.Event) string {
	s := []byte{e.Op, byte(len(e.Key))}
	s = append(s, e.Key...)
	s = append(s, byte(int(e.Seq)/256), byte(int(e.Seq)%256))
	if e.Op == 1 {
		v := (int(e.Value) + 65536) % 65536
		s = append(s, byte(v/256), byte(v%256))
	}
	return withCheck(string(s))
}

// withCheck adds the right check byte.
func withCheck(s string) string {
	total := 0
	for i := range len(s) {
		total += int(s[i])
	}
	return s + string([]byte{byte(total % 256)})
}

// readOne reads the record at the head of s a second way; size 0 if there is none.
func readOne(s string) (api.Event, int) {
	for size := 6; size <= min(len(s), 15); size++ {
		n := size - 5
		if s[0] == 1 {
			n = size - 7
		}
		if s[0] != 1 && s[0] != 2 || n < 1 || n > 8 || int(s[1]) != n {
			continue
		}
		e := api.Event{Op: s[0], Key: s[2 : 2+n], Seq: uint16(int(s[2+n])*256 + int(s[3+n]))}
		if e.Op == 1 {
			v := int(s[4+n])*256 + int(s[5+n])
			if v > 32767 {
				v -= 65536
			}
			e.Value = int16(v)
		}
		if utf8.ValidString(e.Key) && recordOf(e) == s[:size] {
			return e, size
		}
	}
	return api.Event{}, 0
}

// readAll reads a log a second way.
func readAll(log string) ([]api.Event, int, api.Errno) {
	if len(log) > 400 {
		return nil, 0, api.ErrLong
	}
	var events []api.Event
	at := 0
	for at < len(log) {
		e, size := readOne(log[at:])
		if size == 0 {
			return events, at, api.ErrForm
		}
		events = append(events, e)
		at += size
	}
	return events, at, api.OK
}

func checkEncode(t *testing.T, e api.Event, want string, errno api.Errno) {
	t.Helper()
	if s, got := canal.Encode(e); s != want || got != errno {
		t.Errorf("Encode(%+v) = %q, %d, want %q, %d", e, s, got, want, errno)
	}
}

func checkDecode(t *testing.T, log string, want []api.Event, place int, errno api.Errno) {
	t.Helper()
	if l, n, got := canal.Decode(log); !slices.Equal(l, want) || n != place || got != errno {
		t.Errorf("Decode(%.60q) = %+v, %d, %d, want %+v, %d, %d", log, l, n, got, want, place, errno)
	}
}

// checkAgainstSecond compares Decode with the second way, and encodes again what it gave.
func checkAgainstSecond(t *testing.T, log string) {
	t.Helper()
	want, place, errno := readAll(log)
	checkDecode(t, log, want, place, errno)
	events, n, _ := canal.Decode(log)
	again := ""
	for _, e := range events {
		s, _ := canal.Encode(e)
		again += s
	}
	if n < 0 || n > len(log) || again != log[:n] {
		t.Errorf("Decode(%.60q): its events encoded again are %.60q, up to %d", log, again, n)
	}
}

// numbers is a row of numbers that look mixed and are the same each time.
type numbers struct{ state uint32 }

func (m *numbers) next(below int) int {
	m.state = m.state*1664525 + 1013904223
	return int(m.state>>8) % below
}

var someKeys = []string{"a", "b", "ab", "\x00", "é", "€", "😀", "\uFFFD", "abcdefgh", "😀€a", "\uFFFD\uFFFD", "\x7f\u0080"}

func (m *numbers) event() api.Event {
	e := api.Event{Op: byte(1 + m.next(2)), Key: someKeys[m.next(len(someKeys))], Seq: uint16(m.next(65536))}
	if e.Op == api.Put {
		e.Value = int16(m.next(65536) - 32768)
	}
	return e
}

// log makes up to most events whose records fit into MaxLog bytes.
func (m *numbers) log(most int) (string, []api.Event) {
	var events []api.Event
	s := ""
	for range most {
		e := m.event()
		if len(s)+len(recordOf(e)) > 400 {
			break
		}
		s += recordOf(e)
		events = append(events, e)
	}
	return s, events
}

// bytes makes a text of any bytes, many of them small: so some of them are heads of records.
func (m *numbers) bytes() string {
	b := make([]byte, m.next(420))
	for i := range b {
		b[i] = byte(m.next(256))
		if m.next(2) == 0 {
			b[i] = byte(m.next(4))
		}
	}
	return string(b)
}

func TestP3Examples(t *testing.T) {
	checkEncode(t, put("a", 1, 5), "\x01\x01\x61\x00\x01\x00\x05\x69", api.OK)
	checkEncode(t, drop("a", 2), "\x02\x01\x61\x00\x02\x66", api.OK)
	checkEncode(t, put("é", 256, -2), "\x01\x02\xc3\xa9\x01\x00\xff\xfe\x6d", api.OK)
	checkEncode(t, api.Event{Op: api.Drop, Key: "a", Value: 1}, "", api.ErrArg)
	checkEncode(t, put("\xff", 1, 5), "", api.ErrKey)
}

func TestP3AllOps(t *testing.T) {
	for op := 0; op < 256; op++ {
		e := api.Event{Op: byte(op), Key: "a", Seq: 7}
		if op == 1 || op == 2 {
			checkEncode(t, e, recordOf(e), api.OK)
		} else {
			checkEncode(t, e, "", api.ErrOp)
		}
	}
}

func TestP3AllSeqs(t *testing.T) {
	for seq := 0; seq < 65536; seq++ {
		for _, e := range []api.Event{put("é", uint16(seq), -1), drop("é", uint16(seq))} {
			checkEncode(t, e, recordOf(e), api.OK)
		}
	}
}

func TestP3AllValues(t *testing.T) {
	for v := math.MinInt16; v <= math.MaxInt16; v++ {
		e := put("key", 258, int16(v))
		checkEncode(t, e, recordOf(e), api.OK)
		e.Op = api.Drop
		if v == 0 {
			checkEncode(t, e, recordOf(e), api.OK)
		} else {
			checkEncode(t, e, "", api.ErrArg)
		}
	}
}

func TestP3Keys(t *testing.T) {
	for _, k := range someKeys {
		checkEncode(t, put(k, 1, 2), recordOf(put(k, 1, 2)), api.OK)
		checkEncode(t, drop(k, 1), recordOf(drop(k, 1)), api.OK)
	}
	for _, k := range wrongKeys() {
		checkEncode(t, put(k, 1, 2), "", api.ErrKey)
		checkEncode(t, drop(k, 1), "", api.ErrKey)
	}
}

func wrongKeys() []string {
	return []string{
		"", "abcdefghi", "€€€", strings.Repeat("k", 255), strings.Repeat("k", 256), strings.Repeat("k", 257), strings.Repeat("k", 5000000),
		"\xff", "\x80", "a\x80", "\xc3", "\xc3a", "\xc0\x80", "\xe0\x9f\xbf", "\xed\xa0\x80", "\xed\xbf\xbf", "\xef\xbf", "\xef\xbf\xbe\xbd",
		"\xf0\x8f\xbf\xbf", "\xf4\x90\x80\x80", "\xf5\x80\x80\x80", "\uFFFD\xff", "\xff\uFFFD", "abcdefg\xc3",
	}
}

func TestP1FirstErrorOfEncode(t *testing.T) {
	for _, op := range []byte{0, 3, 255} {
		checkEncode(t, api.Event{Op: op, Key: "", Value: 1}, "", api.ErrOp)
		checkEncode(t, api.Event{Op: op, Key: "\xff", Value: 0}, "", api.ErrOp)
		checkEncode(t, api.Event{Op: op, Key: "a", Value: 1}, "", api.ErrOp)
	}
	for _, k := range wrongKeys() {
		checkEncode(t, api.Event{Op: api.Drop, Key: k, Value: 1}, "", api.ErrKey)
	}
}

func TestP1FirstErrorOfDecode(t *testing.T) {
	checkDecode(t, strings.Repeat("\x00", 401), nil, 0, api.ErrLong)
	checkDecode(t, strings.Repeat(recordOf(put("a", 1, 5)), 50)+"x", nil, 0, api.ErrLong)
}

func TestP4Examples(t *testing.T) {
	a, b := put("a", 1, 5), drop("a", 2)
	log := "\x01\x01a\x00\x01\x00\x05\x69" + "\x02\x01a\x00\x02\x66"
	checkDecode(t, log, []api.Event{a, b}, 14, api.OK)
	checkDecode(t, log[:13], []api.Event{a}, 8, api.ErrForm)
	checkDecode(t, "", nil, 0, api.OK)
}

func TestP4LogBounds(t *testing.T) {
	one := recordOf(put("a", 1, 5))
	full := slices.Repeat([]api.Event{put("a", 1, 5)}, 50)
	checkDecode(t, strings.Repeat(one, 50), full, 400, api.OK)
	checkDecode(t, strings.Repeat(one, 49)+one[:7], full[:49], 392, api.ErrForm)
	checkDecode(t, strings.Repeat(one, 49)+one[:7]+"x", full[:49], 392, api.ErrForm)
	checkDecode(t, strings.Repeat(one, 51), nil, 0, api.ErrLong)
	checkDecode(t, strings.Repeat(one, 1000000), nil, 0, api.ErrLong)
}

func TestP4WrongRecords(t *testing.T) {
	good := put("b", 9, -3)
	wrong := []string{
		withCheck("\x00\x01a\x00\x01"), withCheck("\x03\x01a\x00\x01"), withCheck("\x00\x01a\x00\x01\x00\x05"), withCheck("\x03\x01a\x00\x01\x00\x05"), withCheck("\xff\x01a\x00\x01\x00\x05"),
		withCheck("\x02\x00\x00\x01"), withCheck("\x01\x00\x00\x01\x00\x05"), withCheck("\x02\x09abcdefghi\x00\x01"), withCheck("\x01\x09abcdefghi\x00\x01\x00\x05"), withCheck("\x02\xff" + strings.Repeat("k", 255) + "\x00\x01"),
		withCheck("\x02\x01\xff\x00\x01"), withCheck("\x02\x02\xc3a\x00\x01"), withCheck("\x01\x02\xef\xbf\x00\x01\x00\x05"), withCheck("\x01\x03\xed\xa0\x80\x00\x01\x00\x05"),
		"\x02\x01a\x00\x02\x67", "\x02\x01a\x00\x02\x65", "\x01\x01a\x00\x01\x00\x05\x00", "\x01", "\x02", "\x01\x01", "\x02\xff", "x",
	}
	for _, w := range wrong {
		checkDecode(t, w, nil, 0, api.ErrForm)
		checkDecode(t, w+recordOf(good), nil, 0, api.ErrForm)
		checkDecode(t, recordOf(good)+w, []api.Event{good}, 8, api.ErrForm)
		checkDecode(t, recordOf(good)+w+recordOf(good), []api.Event{good}, 8, api.ErrForm)
	}
}

func TestP4AllSeqsAndValues(t *testing.T) {
	for n := 0; n < 65536; n++ {
		l := []api.Event{put("é", uint16(n), int16(n-32768)), drop("\uFFFD", uint16(n))}
		log := recordOf(l[0]) + recordOf(l[1])
		checkDecode(t, log, l, len(log), api.OK)
	}
}

func TestP4AllCheckBytes(t *testing.T) {
	for _, e := range []api.Event{put("a", 1, 5), drop("a", 2), put("\uFFFD", 65535, -32768)} {
		s := recordOf(e)
		for c := 0; c < 256; c++ {
			changed := s[:len(s)-1] + string([]byte{byte(c)})
			if changed == s {
				checkDecode(t, changed, []api.Event{e}, len(s), api.OK)
			} else {
				checkDecode(t, changed, nil, 0, api.ErrForm)
			}
		}
	}
}

func TestP4Truncated(t *testing.T) {
	m := &numbers{1}
	for range 20 {
		log, _ := m.log(100)
		for n := range len(log) + 1 {
			checkAgainstSecond(t, log[:n])
		}
	}
}

func TestP4OneByteChanged(t *testing.T) {
	log := recordOf(put("a", 1, 5)) + recordOf(drop("é", 515)) + recordOf(put("\uFFFD", 65535, -32768)) + recordOf(drop("abcdefgh", 0))
	for at := range len(log) {
		for c := 0; c < 256; c++ {
			changed := log[:at] + string([]byte{byte(c)}) + log[at+1:]
			checkAgainstSecond(t, changed)
		}
	}
}

func TestP4HeadsWithRightCheck(t *testing.T) {
	for op := 0; op < 256; op++ {
		for n := 0; n < 256; n++ {
			head := string([]byte{byte(op), byte(n)})
			for size := 0; size <= 16; size++ {
				checkAgainstSecond(t, withCheck(head+"abcdefghijklmnop"[:size]))
			}
			checkAgainstSecond(t, withCheck(head+strings.Repeat("k", n)+"\x00\x01"))
			checkAgainstSecond(t, withCheck(head+strings.Repeat("k", n)+"\x00\x01\x00\x05"))
		}
	}
}

func TestP1AnyBytes(t *testing.T) {
	m := &numbers{7}
	for range 20000 {
		checkAgainstSecond(t, m.bytes())
	}
}

func TestP15EncodeAndDecode(t *testing.T) {
	m := &numbers{3}
	for range 2000 {
		want, events := m.log(m.next(60))
		log := ""
		for _, e := range events {
			s, errno := canal.Encode(e)
			if errno != api.OK {
				t.Fatalf("Encode(%+v): %d", e, errno)
			}
			log += s
		}
		if log != want {
			t.Fatalf("Encode of %+v gives %q, want %q", events, log, want)
		}
		checkDecode(t, log, events, len(log), api.OK)
	}
}

func TestP2OwnMemory(t *testing.T) {
	m := &numbers{5}
	for n := range 40 {
		log, want := m.log(n)
		first, _, _ := canal.Decode(log)
		second, _, _ := canal.Decode(log + "x")
		spoilt := first[:cap(first)]
		for i := range spoilt {
			spoilt[i] = put("spoilt", 1, 1)
		}
		if !slices.Equal(second, want) {
			t.Errorf("two answers share memory: %+v, want %+v", second, want)
		}
		for _, e := range second[:cap(second)][len(second):] {
			if e == put("spoilt", 1, 1) {
				t.Errorf("two answers share spare room")
			}
		}
		checkDecode(t, log, want, len(log), api.OK)
	}
}

func TestP2SameAgain(t *testing.T) {
	m := &numbers{11}
	log, want := m.log(100)
	for range 100 {
		other, _ := m.log(m.next(60))
		canal.Decode(other + "x")
		canal.Decode(strings.Repeat("x", 401))
		canal.Encode(m.event())
		canal.Encode(put("", 0, 0))
		checkDecode(t, log, want, len(log), api.OK)
		checkEncode(t, put("a", 1, 5), recordOf(put("a", 1, 5)), api.OK)
	}
}
