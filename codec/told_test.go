package codec

import (
	"slices"
	"strings"
	"testing"

	"columbarium/api"
)

// The ways of the chapter: texts are told one by one, and anything is taken by one function.

// told is a text as it is told, or the error.
type told struct {
	text string
	e    api.Errno
}

// allOf is what is told until there are so many.
func allOf(left string, many, until int) []told {
	var out []told
	for text, e := range texts(left, many) {
		out = append(out, told{text, e})
		if len(out) == until {
			break
		}
	}
	return out
}

func TestTextsAreTold(t *testing.T) {
	a, none, great := "\x00\x00\x00\x01a", "\x00\x00\x00\x00", "\x80\x00\x00\x00"
	ok, empty := told{"a", api.OK}, told{"", api.OK}
	for i, x := range []struct {
		left string
		many int
		want []told
	}{
		{"", 0, nil},
		{a, 0, nil},
		{a, 1, []told{ok}},
		{a + none + a, 3, []told{ok, empty, ok}},
		{a + none + a, 2, []told{ok, empty}},
		{"", 3, []told{{"", api.ErrShort}}},
		{a + none, 5, []told{ok, empty, {"", api.ErrShort}}},
		{a + great + a, 3, []told{ok, {"", api.ErrForm}}},
		{great + a, 1000, []told{{"", api.ErrForm}}},
		{strings.Repeat(none, 1000), 1000, slices.Repeat([]told{empty}, 1000)},
	} {
		if got := allOf(x.left, x.many, -1); !slices.Equal(got, x.want) {
			t.Errorf("%d: %v, want %v", i, got, x.want)
		}
		// And ended after each: nothing more is told.
		for n := range x.want {
			if got := allOf(x.left, x.many, n+1); !slices.Equal(got, x.want[:n+1]) {
				t.Errorf("%d, ended after %d: %v", i, n+1, got)
			}
		}
	}
}

func TestTellingBeginsAnew(t *testing.T) {
	l := texts("\x00\x00\x00\x01a\x00\x00\x00\x01b", 2)
	for range 3 {
		out := ""
		for text := range l {
			out += text
		}
		if out != "ab" {
			t.Error(out)
		}
	}
}

// pair is a thing that the chapter does not have.
type pair [2]byte

func firstPair(left string) (pair, int, api.Errno) {
	if len(left) < 2 {
		return pair{9, 9}, 9, api.ErrShort
	}
	return pair{left[0], left[1]}, 2, api.OK
}

func TestAnythingIsTaken(t *testing.T) {
	c := api.Cursor{Bytes: "abcde", At: 1}
	one, d, e := take(c, firstPair)
	if one != (pair{'b', 'c'}) || d != (api.Cursor{Bytes: "abcde", At: 3}) || e != api.OK {
		t.Error(one, d, e)
	}
	// With an error nothing is told, whatever else was answered with it.
	for _, at := range []int{4, 5} {
		c.At = at
		if one, d, e := take(c, firstPair); one != (pair{}) || d != c || e != api.ErrShort {
			t.Error(at, one, d, e)
		}
	}
	// And of a cursor that is not right nothing is read.
	for _, at := range []int{-1, 6} {
		c.At = at
		one, d, e := take(c, func(string) (pair, int, api.Errno) {
			t.Error("read")
			return pair{}, 0, api.OK
		})
		if one != (pair{}) || d != c || e != api.ErrArg {
			t.Error(at, one, d, e)
		}
	}
}
