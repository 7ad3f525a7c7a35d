package stream

import (
	"slices"
	"strings"
	"testing"
)

// The ways of the chapter: counters are told one by one, and whether there is a key is asked once.

func TestKeyIsAskedOnce(t *testing.T) {
	right, wrong := strings.Repeat("k", 16), "k"
	for _, x := range []struct {
		first, then string
		is          bool
	}{{right, wrong, true}, {wrong, right, false}} {
		p := pad{key: x.first}
		if p.is {
			t.Error("there is a key ahead of the first asking")
		}
		for range 3 {
			if got := p.hasKey(); got != x.is {
				t.Errorf("%q: %v", x.first, got)
			}
			// Another key behind its back: had it been asked anew, it would tell.
			p.key = x.then
		}
	}
}

func TestCountersAreTold(t *testing.T) {
	first := strings.Repeat("\xff", counterSize-1) + "\xfe"
	noughts := strings.Repeat("\x00", counterSize)
	want := []string{first, strings.Repeat("\xff", counterSize), noughts, noughts[1:] + "\x01"}
	for many := range len(want) + 1 {
		told := counters(first, many)
		// Gone through twice: what tells them begins anew.
		for range 2 {
			if got := slices.Collect(told); !slices.Equal(got, want[:many]) {
				t.Errorf("%d: %x, want %x", many, got, want[:many])
			}
		}
	}
}

func TestTellingMayEndEarly(t *testing.T) {
	many := 0
	for range counters(strings.Repeat("c", counterSize), 5) {
		many++
		if many == 2 {
			break
		}
	}
	if many != 2 {
		t.Error(many)
	}
}
