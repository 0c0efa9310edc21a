// Package key: what a key is, its group and its hash.
package key

import "canal/api"

const (
	replacement      = '\uFFFD'
	replacementBytes = "\uFFFD"
)

const (
	hashStart  uint32 = 2166136261
	hashFactor uint32 = 16777619
)

// Valid tells whether s is a key: 1 to MaxKey bytes in UTF-8.
func Valid(s string) bool {
	if len(s) < 1 || len(s) > api.MaxKey {
		return false
	}
	for i, point := range s {
		// range tells U+FFFD for a wrong byte too: only its own three bytes make it right.
		if point == replacement && !replacementAt(s, i) {
			return false
		}
	}
	return true
}

// replacementAt tells whether the bytes of U+FFFD stand in s from at on.
func replacementAt(s string, at int) bool {
	end := at + len(replacementBytes)
	if at < 0 || end > len(s) {
		return false
	}
	return s[at:end] == replacementBytes
}

// Group is the group of a key: its first code point.
func Group(s string) rune {
	points := []rune(s)
	if len(points) == 0 {
		return 0
	}
	return points[0]
}

// Hash is the hash of a key, over its bytes, wrapping at 32 bits.
func Hash(s string) uint32 {
	hash := hashStart
	for i := 0; i < len(s); i++ {
		hash ^= uint32(s[i])
		hash *= hashFactor
	}
	return hash
}
