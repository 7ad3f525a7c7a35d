package bucket

import (
	"iter"
	"slices"
	"strings"
	"testing"

	"columbarium/api"
)

// The ways of the chapter: a way is told place by place, and bytes of any kind are numbers.

// toldAs is what an iterator tells, each place with the state there.
type toldAs struct{ place, state int }

// untilOf is what is told until there are so many.
func untilOf(l iter.Seq2[int, api.Bucket], until int) []toldAs {
	var out []toldAs
	for place, b := range l {
		out = append(out, toldAs{place, b.State})
		if len(out) == until {
			break
		}
	}
	return out
}

func checkTold(t *testing.T, l iter.Seq2[int, api.Bucket], want ...toldAs) {
	t.Helper()
	// Gone through twice: what tells them begins anew.
	for range 2 {
		if got := untilOf(l, -1); !slices.Equal(got, want) {
			t.Errorf("%v, want %v", got, want)
		}
	}
	// And ended after each: nothing more is told.
	for n := range want {
		if got := untilOf(l, n+1); !slices.Equal(got, want[:n+1]) {
			t.Errorf("ended after %d: %v", n+1, got)
		}
	}
}

// ofStates is a store of buckets of these states; those that are used have no label but a number of their own.
func ofStates(states ...int) api.Store {
	var s api.Store
	for i, state := range states {
		b := api.Bucket{State: state}
		if state == api.Used {
			b.Label = string([]byte{byte(i)})
		}
		s.Buckets = append(s.Buckets, b)
	}
	return s
}

// home is a label with that home.
func home(n byte) string { return string([]byte{0, 0, 0, n}) + strings.Repeat("a", 12) }

func TestWayIsTold(t *testing.T) {
	const free, used, gone = api.Free, api.Used, api.Gone
	s := ofStates(used, gone, free, used, free, gone, used, used)
	checkTold(t, way(s, home(0)), toldAs{0, used}, toldAs{1, gone})
	checkTold(t, way(s, home(1)), toldAs{1, gone})
	checkTold(t, way(s, home(2)))
	checkTold(t, way(s, home(11)), toldAs{3, used})
	checkTold(t, way(s, home(5)), toldAs{5, gone}, toldAs{6, used}, toldAs{7, used}, toldAs{0, used}, toldAs{1, gone})
	checkTold(t, way(s, home(15)), toldAs{7, used}, toldAs{0, used}, toldAs{1, gone})
	// Where none is free, it is all of them, once.
	checkTold(t, way(ofStates(used, gone, used), home(2)), toldAs{2, used}, toldAs{0, used}, toldAs{1, gone})
	checkTold(t, way(ofStates(), home(2)))
}

func TestRoundIsTold(t *testing.T) {
	const free, used, gone = api.Free, api.Used, api.Gone
	s := ofStates(used, free, gone, free)
	checkTold(t, round(s, 0), toldAs{0, used}, toldAs{1, free}, toldAs{2, gone}, toldAs{3, free})
	checkTold(t, round(s, 2), toldAs{2, gone}, toldAs{3, free}, toldAs{0, used}, toldAs{1, free})
	checkTold(t, round(s, 3), toldAs{3, free}, toldAs{0, used}, toldAs{1, free}, toldAs{2, gone})
}

func TestUsedAreTold(t *testing.T) {
	s := ofStates(api.Used, api.Free, api.Used, api.Gone, api.Used)
	for until, want := range []string{"\x00\x02\x04", "\x00", "\x00\x02", "\x00\x02\x04"} {
		for range 2 {
			got := ""
			for b := range used(s) {
				got += b.Label
				if len(got) == until {
					break
				}
			}
			if got != want {
				t.Errorf("%d: %q, want %q", until, got, want)
			}
		}
	}
}

// letters are bytes under another name.
type letters string

func TestBytesAreNumbers(t *testing.T) {
	for _, x := range []struct {
		bytes string
		want  int
	}{{"", 0}, {"\x00", 0}, {"\x07", 7}, {"\xff", 255}, {"\x01\x00", 256}, {"\x01\x02\x03\x04", 0x01020304}, {"\xff\xff\xff\xff", 1<<32 - 1}, {"\x00\x00\x00\x80", 128}, {"ä", 0xc3a4}} {
		if got := number(x.bytes); got != x.want {
			t.Errorf("%q: %d, want %d", x.bytes, got, x.want)
		}
		if got := number(letters(x.bytes)); got != x.want {
			t.Errorf("%q, named: %d, want %d", x.bytes, got, x.want)
		}
		if got := number([]byte(x.bytes)); got != x.want {
			t.Errorf("%q, a list: %d, want %d", x.bytes, got, x.want)
		}
	}
}

func TestLabelsThatAreThereTwice(t *testing.T) {
	b := func(label string) api.Bucket { return api.Bucket{State: api.Used, Label: label} }
	for i, x := range []struct {
		want    bool
		buckets []api.Bucket
	}{
		{false, nil},
		{false, []api.Bucket{b("a")}},
		{false, []api.Bucket{b("a"), b("b"), {}, {}, b("c")}},
		{true, []api.Bucket{b("a"), b("a")}},
		{true, []api.Bucket{b("b"), b("a"), {}, {}, b("b")}},
		{false, []api.Bucket{b("a"), {State: api.Gone, Label: "a"}}},
	} {
		many := 0
		for _, one := range x.buckets {
			many += one.State % 2
		}
		if got := twice(api.Store{Buckets: x.buckets, Many: many}); got != x.want {
			t.Errorf("%d: %v", i, got)
		}
	}
}
