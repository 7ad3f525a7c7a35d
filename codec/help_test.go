package codec_test

import (
	"encoding/binary"
	"math"
	"math/rand"
	"slices"
	"strings"
	"testing"

	"columbarium/api"
	"columbarium/codec"
)

// sample is n bytes of all values, without a short period.
func sample(n int) string {
	b := make([]byte, n)
	rand.New(rand.NewSource(int64(n) + 10)).Read(b)
	return string(b)
}

// numberBytes, textBytes and listBytes are what the promises say, by the library, however many bytes there are.
func numberBytes(n int) string {
	return string(binary.BigEndian.AppendUint32(nil, uint32(n)))
}

func textBytes(s string) string { return numberBytes(len(s)) + s }

func listBytes(l ...string) string {
	out := numberBytes(len(l))
	for _, s := range l {
		out += textBytes(s)
	}
	return out
}

// numbers that may be: all at which a byte goes over, or begins.
func numbers() []int {
	out := []int{0, 10, 258, 65536 + 258, 0x01020304, 0x7f80ff01, math.MaxInt32}
	for shift := range 31 {
		out = append(out, 1<<shift, 1<<(shift+1)-1)
	}
	return out
}

// wrongNumbers may not be; of many the last four bytes, or the last 31 bits, would be those of one that may.
func wrongNumbers() []int {
	out := []int{math.MinInt, math.MinInt32, math.MinInt32 - 1, math.MaxInt, math.MaxInt - 1, 1<<31 + 5, 3 << 31, 1<<32 - 1, 1<<32 + 5, -5, -256}
	for shift := 31; shift < 63; shift++ {
		out = append(out, 1<<shift, -1<<shift)
	}
	for shift := range 31 {
		out = append(out, -1<<shift)
	}
	return out
}

// texts that may be: with bytes that are no letters, that look like numbers, and of lengths at which a byte goes over.
func texts() []string {
	out := []string{"a", "abc", "\x00", "\x00\x00\x00\x00", "\x80\x00\x00\x00", "\xff\xfe", "äöü", strings.Repeat("ä", api.MaxText/2)}
	for _, n := range []int{0, 2, 3, 4, 5, 127, 128, 255, 256, 257, 32767, 32768, 65531, 65532, 65533, 65535, 65536} {
		out = append(out, sample(n))
	}
	return out
}

// longTexts are; the last has fewer letters than may be, but more bytes.
func longTexts() []string {
	return []string{sample(api.MaxText + 1), sample(api.MaxText + 4), sample(2 * api.MaxText), sample(1 << 24), strings.Repeat("ä", api.MaxText/2+1)}
}

// split is so many texts with so many bytes in all; those ahead have one more than those behind.
func split(many, bytes int) []string {
	all := sample(bytes)
	var out []string
	for i := range many {
		n := (bytes + many - 1 - i) / many
		out = append(out, all[:n])
		all = all[n:]
	}
	return out
}

// lists that may be: with nothing in them, with empty texts, with as many texts and as many bytes as may be.
func lists() [][]string {
	return [][]string{
		nil,
		{},
		{""},
		{"a"},
		{"a", ""},
		{"", "a", "", ""},
		{"same", "same", "same"},
		{"\x00\x00\x00\x00", "\x00\x00\x00\x01", "\xff\xff\xff\xff", "ä"},
		make([]string, 999),
		make([]string, api.MaxList),
		split(10, 255),
		split(256, 1000),
		split(257, 3000),
		split(api.MaxList, 20000),
		{sample(api.MaxText - 9)},
		{sample(api.MaxText - 8)},
		{sample(30000), sample(30000), sample(5520)},
		{"", "", sample(api.MaxText - 16)},
		split(api.MaxList, api.MaxText-4-4*api.MaxList),
	}
}

// longLists have a text, or a byte, too many; or a text that is too long.
func longLists() [][]string {
	out := [][]string{
		make([]string, api.MaxList+1),
		make([]string, 2*api.MaxList),
		make([]string, api.MaxText/4),
		make([]string, 1<<20),
		split(api.MaxList+1, 1001),
		{sample(api.MaxText - 7)},
		{sample(api.MaxText - 4)},
		{sample(api.MaxText)},
		{sample(api.MaxText), sample(api.MaxText)},
		{sample(30000), sample(30000), sample(5521)},
		{"", "", sample(api.MaxText - 15)},
		split(api.MaxList, api.MaxText-3-4*api.MaxList),
		split(api.MaxList, api.MaxText),
		slices.Repeat([]string{sample(api.MaxText)}, api.MaxList),
	}
	for _, s := range longTexts() {
		out = append(out, []string{s}, []string{"", s}, []string{s, "a"}, append(make([]string, api.MaxList), s))
	}
	return out
}

// places are cursors at the beginning of these bytes, with others ahead of them and behind them, as many of these as may be.
func places(bytes string) []api.Cursor {
	var out []api.Cursor
	room := api.MaxText - len(bytes)
	for _, ahead := range []string{"", "?", "\x00\x00\x00\x00", sample(1000), sample(max(room, 0))} {
		for _, behind := range []string{"", "!", "\x00", "\xff\xff\xff\xff", sample(1000), sample(max(room-1, 0))} {
			if len(ahead)+len(behind) <= room {
				out = append(out, api.Cursor{Bytes: ahead + bytes + behind, At: len(ahead)})
			}
		}
	}
	return out
}

// endings are cursors with nothing behind these bytes.
func endings(bytes string) []api.Cursor {
	var out []api.Cursor
	for _, c := range places(bytes) {
		if len(c.Bytes) == c.At+len(bytes) {
			out = append(out, c)
		}
	}
	return out
}

// wrongCursors have too many bytes, or are beyond an end; what stands there could be taken, else.
func wrongCursors() []api.Cursor {
	most := strings.Repeat("\x00", api.MaxText)
	return []api.Cursor{
		{At: -1},
		{At: 1},
		{At: math.MinInt},
		{At: math.MaxInt},
		{Bytes: "\x00\x00\x00\x00", At: -1},
		{Bytes: "\x00\x00\x00\x00", At: 5},
		{Bytes: "\x00\x00\x00\x00", At: math.MinInt},
		{Bytes: "\x00\x00\x00\x00", At: math.MaxInt},
		{Bytes: "ääää", At: 9},
		{Bytes: "\xff\xff\xff\xff", At: -4},
		{Bytes: most, At: -1},
		{Bytes: most, At: api.MaxText + 1},
		{Bytes: most + "\x00"},
		{Bytes: most + "\x00", At: 5},
		{Bytes: most + "\x00", At: api.MaxText},
		{Bytes: most + "\x00", At: api.MaxText + 1},
		{Bytes: most + "\xff\xff\xff\xff", At: api.MaxText},
		{Bytes: strings.Repeat(most, 3), At: 2 * api.MaxText},
	}
}

// moved is a cursor, so many further.
func moved(c api.Cursor, n int) api.Cursor {
	c.At += n
	return c
}

// short tells of bytes what can be read of a failed test.
func short(s string) string {
	if len(s) > 40 {
		return s[:40] + ".."
	}
	return s
}

func checkTakeNumber(t *testing.T, c api.Cursor, want int, then api.Cursor, e api.Errno) {
	t.Helper()
	if got, d, f := codec.TakeNumber(c); got != want || d != then || f != e {
		t.Errorf("number of %d bytes, at %d: %d, at %d, error %d; want %d, at %d, error %d", len(c.Bytes), c.At, got, d.At, f, want, then.At, e)
	}
}

func checkTakeText(t *testing.T, c api.Cursor, want string, then api.Cursor, e api.Errno) {
	t.Helper()
	if got, d, f := codec.TakeText(c); got != want || d != then || f != e {
		t.Errorf("text of %d bytes, at %d: %d bytes (%q), at %d, error %d; want %d bytes (%q), at %d, error %d", len(c.Bytes), c.At, len(got), short(got), d.At, f, len(want), short(want), then.At, e)
	}
}

func checkTakeList(t *testing.T, c api.Cursor, want []string, then api.Cursor, e api.Errno) {
	t.Helper()
	if got, d, f := codec.TakeList(c); !slices.Equal(got, want) || d != then || f != e {
		t.Errorf("list of %d bytes, at %d: %d texts, at %d, error %d; want %d texts, at %d, error %d", len(c.Bytes), c.At, len(got), d.At, f, len(want), then.At, e)
	}
}

// checkNone is that none of the three can be taken, by these errors.
func checkNone(t *testing.T, c api.Cursor, number, text, list api.Errno) {
	t.Helper()
	if number != api.OK {
		checkTakeNumber(t, c, 0, c, number)
	}
	checkTakeText(t, c, "", c, text)
	checkTakeList(t, c, nil, c, list)
}
