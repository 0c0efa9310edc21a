package known

import (
	"testing"

	"canal/api"
	"canal/groups"
)

func put(key string, seq uint16, value int16) api.Event {
	return api.Event{Op: api.Put, Key: key, Seq: seq, Value: value}
}

func drop(key string, seq uint16) api.Event {
	return api.Event{Op: api.Drop, Key: key, Seq: seq}
}

// counts checks that e counts, and the change that it makes.
func counts(t *testing.T, keys *Keys, e api.Event, group rune, live int, sum int16) {
	t.Helper()
	want := groups.Change{Group: group, Live: live, Sum: sum}
	// Asked ahead, however often, it takes nothing in.
	for range 2 {
		if !keys.Counts(e) {
			t.Errorf("Counts(%+v) = false", e)
		}
	}
	if got, ok := keys.Take(e); !ok || got != want {
		t.Errorf("Take(%+v) = %+v, %v, want %+v", e, got, ok, want)
	}
}

// countsNot checks that e does not count.
func countsNot(t *testing.T, keys *Keys, e api.Event) {
	t.Helper()
	if keys.Counts(e) {
		t.Errorf("Counts(%+v) = true", e)
	}
	if got, ok := keys.Take(e); ok || got != (groups.Change{}) {
		t.Errorf("Take(%+v) = %+v, %v", e, got, ok)
	}
}

func TestNewer(t *testing.T) {
	for _, b := range []int{0, 1, 9, 32767, 32768, 32769, 65000, 65535} {
		for step := range 65536 {
			a := uint16(b + step)
			if got := newer(a, uint16(b)); got != (step >= 1 && step <= 32767) {
				t.Errorf("newer(%d, %d) = %v", a, b, got)
			}
		}
	}
}

func TestChanges(t *testing.T) {
	var keys Keys
	counts(t, &keys, put("a", 1, 5), 'a', 1, 5)
	counts(t, &keys, put("ab", 1, 7), 'a', 1, 7)
	counts(t, &keys, put("b", 9, -3), 'b', 1, -3)
	countsNot(t, &keys, put("a", 1, 6))
	counts(t, &keys, put("a", 2, 6), 'a', 0, 1)
	counts(t, &keys, drop("a", 3), 'a', -1, -6)
	counts(t, &keys, drop("a", 4), 'a', 0, 0)
	countsNot(t, &keys, put("a", 4, 1))
	counts(t, &keys, put("a", 5, 1), 'a', 1, 1)
	countsNot(t, &keys, put("b", 65000, 1))
	counts(t, &keys, drop("é", 1), 'é', 0, 0)
	counts(t, &keys, put("ab", 32768, 7), 'a', 0, 0)
}

func TestSumOfAChangeWraps(t *testing.T) {
	var keys Keys
	counts(t, &keys, put("a", 1, -32768), 'a', 1, -32768)
	counts(t, &keys, put("a", 2, 32767), 'a', 0, -1)
	counts(t, &keys, put("a", 3, -32768), 'a', 0, 1)
	counts(t, &keys, drop("a", 4), 'a', -1, -32768)
}

func TestWhatDoesNotCountChangesNothing(t *testing.T) {
	var keys Keys
	counts(t, &keys, put("a", 5, 1), 'a', 1, 1)
	countsNot(t, &keys, put("a", 4, 2))
	countsNot(t, &keys, drop("a", 3))
	countsNot(t, &keys, put("a", 5, 3))
	countsNot(t, &keys, put("a", 32773, 3))
	counts(t, &keys, put("a", 6, 4), 'a', 0, 3)
}
