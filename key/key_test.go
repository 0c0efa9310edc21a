package key

import (
	"hash/fnv"
	"strings"
	"testing"
	"unicode/utf8"

	"canal/api"
)

// isKey says it a second way, with the library's own reading of UTF-8.
func isKey(s string) bool {
	return len(s) >= 1 && len(s) <= api.MaxKey && utf8.ValidString(s)
}

func check(t *testing.T, s string) {
	t.Helper()
	if got := Valid(s); got != isKey(s) {
		t.Errorf("Valid(%q) = %v", s, got)
	}
}

func TestLengths(t *testing.T) {
	for n := 0; n <= 20; n++ {
		s := strings.Repeat("k", n)
		if got := Valid(s); got != (n >= 1 && n <= 8) {
			t.Errorf("Valid of %d bytes = %v", n, got)
		}
	}
	// Bytes are counted, not code points.
	for s, want := range map[string]bool{"éééé": true, "ééééa": false, "€€a": true, "€€€": false, "😀😀": true, "😀😀a": false} {
		if got := Valid(s); got != want {
			t.Errorf("Valid(%q) = %v", s, got)
		}
	}
	if Valid(strings.Repeat("k", 9000000)) {
		t.Error("a text of 9000000 bytes is no key")
	}
}

func TestReplacement(t *testing.T) {
	for s, want := range map[string]bool{
		"\uFFFD":             true,
		"a\uFFFD":            true,
		"\uFFFDa":            true,
		"\uFFFD\uFFFD":       true,
		"a\uFFFDb\uFFFD":     true,
		"\xef":               false,
		"\xef\xbf":           false,
		"\xbf\xbd":           false,
		"\uFFFD\xef\xbf":     false,
		"\xff\uFFFD":         false,
		"\uFFFD\xff":         false,
		"\xef\uFFFD":         false,
		"\xef\xbf\uFFFD":     false,
		"\uFFFD\xbd":         false,
		"\uFFFD\uFFFDab":     true,
		"\uFFFD\uFFFD\uFFFD": false,
	} {
		if got := Valid(s); got != want {
			t.Errorf("Valid(%q) = %v", s, got)
		}
	}
}

func TestAllShortTexts(t *testing.T) {
	for a := 0; a < 256; a++ {
		check(t, string([]byte{byte(a)}))
		for b := 0; b < 256; b++ {
			check(t, string([]byte{byte(a), byte(b)}))
		}
	}
}

// The bytes at which one kind of UTF-8 byte ends and the next begins.
const edges = "\x00a\x7f\x80\x8f\x90\x9f\xa0\xbd\xbf\xc0\xc1\xc2\xdf\xe0\xe1\xec\xed\xee\xef\xf0\xf1\xf3\xf4\xf5\xff"

func TestEdgesOfThreeAndFourBytes(t *testing.T) {
	for a := range len(edges) {
		for b := range len(edges) {
			for c := range len(edges) {
				three := string([]byte{edges[a], edges[b], edges[c]})
				check(t, three)
				for d := range len(edges) {
					four := three + edges[d:d+1]
					check(t, four)
					check(t, "xyz"+four)
					check(t, four+"wxyz")
					check(t, four+"vwxyz")
				}
			}
		}
	}
}

func TestAllCodePoints(t *testing.T) {
	for r := rune(0); r <= utf8.MaxRune; r++ {
		s := string(r)
		if !Valid(s) {
			t.Fatalf("Valid(%q) = false", s)
		}
	}
}

func TestGroup(t *testing.T) {
	for r := rune(0); r <= utf8.MaxRune; r++ {
		if r >= 0xd800 && r <= 0xdfff {
			continue
		}
		for _, s := range []string{string(r), string(r) + "a", string(r) + string(r), string(r) + "😀"} {
			if got := Group(s); got != r {
				t.Fatalf("Group(%q) = %d, want %d", s, got, r)
			}
		}
	}
	if got := Group(""); got != 0 {
		t.Errorf("Group of no text = %d", got)
	}
}

func checkHash(t *testing.T, s string, want uint32) {
	t.Helper()
	if got := Hash(s); got != want {
		t.Errorf("Hash(%q) = %d, want %d", s, got, want)
	}
}

func TestHash(t *testing.T) {
	checkHash(t, "a", 3826002220)
	checkHash(t, "b", 3876335077)
	checkHash(t, "", 2166136261)
	for _, s := range []string{"ab", "ba", "abcdefgh", "é", "€", "😀😀", "\uFFFD", "\x00", "\x00\x00", "\x7f"} {
		checkHash(t, s, hashOf(s))
	}
	for point := rune(0); point <= utf8.MaxRune; point += 7 {
		checkHash(t, string(point)+"k", hashOf(string(point)+"k"))
	}
}

// hashOf is the same hash from the library, which knows it as FNV-1a.
func hashOf(s string) uint32 {
	h := fnv.New32a()
	h.Write([]byte(s))
	return h.Sum32()
}
