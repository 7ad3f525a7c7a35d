package aes

import (
	"slices"
	"strings"
	"testing"
)

// The ways of the chapter: round keys are made once, and told in order, or turned about.

func TestRoundKeysAreMadeOnce(t *testing.T) {
	s := schedule{key: strings.Repeat("k", shortKey)}
	if s.keys != nil {
		t.Error("there are round keys ahead of the first asking")
	}
	first := slices.Clone(s.roundKeys())
	// Another key behind its back: had they been made anew, they would tell.
	s.key = strings.Repeat("l", longKey)
	if again := s.roundKeys(); !slices.Equal(again, first) {
		t.Errorf("%x, ahead of it %x", again, first)
	}
}

func TestRoundKeysAreTold(t *testing.T) {
	for _, n := range []int{shortKey, longKey} {
		s := schedule{key: strings.Repeat("k", n)}
		var up, down []int
		for round, roundKey := range s.inOrder() {
			if roundKey != s.keys[round] {
				t.Errorf("round %d: %x, want %x", round, roundKey, s.keys[round])
			}
			up = append(up, round)
		}
		for round, roundKey := range s.turnedAbout() {
			if roundKey != s.keys[round] {
				t.Errorf("round %d, turned about: %x, want %x", round, roundKey, s.keys[round])
			}
			down = append(down, round)
		}
		slices.Reverse(down)
		if len(up) != len(s.keys) || !slices.IsSorted(up) || !slices.Equal(up, down) {
			t.Errorf("told: %d, and turned about %d", up, down)
		}
	}
}

func TestTellingMayEndEarly(t *testing.T) {
	s := schedule{key: strings.Repeat("k", shortKey)}
	many := 0
	for range s.inOrder() {
		many++
		break
	}
	for range s.turnedAbout() {
		many++
		break
	}
	if many != 2 {
		t.Error(many)
	}
}
