package codec_test

import (
	"encoding/binary"
	"math/rand"
	"slices"
	"strings"
	"sync"
	"testing"
	"unsafe"

	"columbarium/api"
	"columbarium/codec"
)

// J5: what was written is taken.

// ends are what stands behind: nothing, bytes of another one, and bytes that can't be taken.
func ends() []string {
	return []string{"", "\x00", "a", "\x00\x00\x00\x00", "\x00\x00\x00\x01a", "\x80\x00\x00\x00", "\xff\xff\xff\xff\xff"}
}

func TestWhatWasWrittenIsTaken(t *testing.T) {
	for _, behind := range ends() {
		for _, n := range numbers() {
			bytes, e := codec.Number(n)
			c := api.Cursor{Bytes: "?" + bytes + behind, At: 1}
			checkTakeNumber(t, c, n, moved(c, len(bytes)), e)
		}
		for _, s := range texts() {
			bytes, e := codec.Text(s)
			c := api.Cursor{Bytes: bytes + behind}
			if len(c.Bytes) <= api.MaxText {
				checkTakeText(t, c, s, moved(c, len(bytes)), e)
			}
		}
		for _, l := range lists() {
			bytes, e := codec.List(l...)
			c := api.Cursor{Bytes: bytes + behind}
			if len(c.Bytes) <= api.MaxText {
				checkTakeList(t, c, l, moved(c, len(bytes)), e)
			}
		}
	}
}

// A cursor has no room for the bytes of the four longest texts.
func TestTextsThatNoCursorHas(t *testing.T) {
	for n := api.MaxText - 3; n <= api.MaxText; n++ {
		bytes, e := codec.Text(sample(n))
		if e != api.OK {
			t.Fatal(n, e)
		}
		c := api.Cursor{Bytes: bytes}
		checkNone(t, c, api.ErrArg, api.ErrArg, api.ErrArg)
	}
}

// No bytes begin with those of another: of what was written, less bytes can't be taken, and with other bytes at its end it is another one.
func TestNoBytesBeginWithAnothers(t *testing.T) {
	var written [3][]string
	for _, n := range numbers() {
		bytes, _ := codec.Number(n)
		written[0] = append(written[0], bytes)
	}
	for _, s := range append(texts(), "\x00\x00\x00\x01", "\x00\x00\x00\x00\x00") {
		bytes, _ := codec.Text(s)
		written[1] = append(written[1], bytes)
	}
	for _, l := range lists() {
		bytes, _ := codec.List(l...)
		written[2] = append(written[2], bytes)
	}
	for kind, all := range written {
		slices.Sort(all)
		all = slices.Compact(all)
		for i, a := range all {
			for j, b := range all {
				if i != j && strings.HasPrefix(a, b) {
					t.Errorf("%d: %q begins with %q", kind, short(a), short(b))
				}
			}
		}
	}
}

func TestBytesThatEndEarly(t *testing.T) {
	for _, l := range [][]string{{""}, {"a", ""}, {"", "", "abc"}, {"\x00\x00\x00\x00"}, split(5, 30)} {
		bytes, _ := codec.List(l...)
		for n := range len(bytes) {
			c := api.Cursor{Bytes: bytes[:n]}
			checkTakeList(t, c, nil, c, api.ErrShort)
		}
	}
	for _, s := range []string{"", "a", "äöü", "\x00\x00\x00\x00", sample(300)} {
		bytes, _ := codec.Text(s)
		for n := range len(bytes) {
			c := api.Cursor{Bytes: bytes[:n]}
			checkTakeText(t, c, "", c, api.ErrShort)
		}
	}
}

// The promises of what is taken, told over again: what was read so far, and the first error.
type reader struct {
	bytes string
	e     api.Errno
}

func (r *reader) fail(e api.Errno) int {
	if r.e == api.OK {
		r.e = e
	}
	return 0
}

func (r *reader) number() int {
	if r.e != api.OK {
		return 0
	}
	if len(r.bytes) < 4 {
		return r.fail(api.ErrShort)
	}
	n := binary.BigEndian.Uint32([]byte(r.bytes[:4]))
	if n >= 1<<31 {
		return r.fail(api.ErrForm)
	}
	r.bytes = r.bytes[4:]
	return int(n)
}

func (r *reader) text() string {
	n := r.number()
	if r.e != api.OK || n > len(r.bytes) {
		r.fail(api.ErrShort)
		return ""
	}
	s := r.bytes[:n]
	r.bytes = r.bytes[n:]
	return s
}

func (r *reader) list() []string {
	var l []string
	n := r.number()
	if n > 1000 {
		r.fail(api.ErrForm)
	}
	for i := 0; i < n && r.e == api.OK; i++ {
		l = append(l, r.text())
	}
	if r.e != api.OK {
		return nil
	}
	return l
}

// then is the cursor behind what was read, or as it was.
func (r *reader) then(c api.Cursor) api.Cursor {
	if r.e == api.OK {
		c.At = len(c.Bytes) - len(r.bytes)
	}
	return c
}

// drawnBytes are mostly numbers that are small, so that much can be taken; some bytes are other ones, missing or too many.
func drawnBytes(r *rand.Rand) string {
	var out []byte
	for range r.Intn(12) {
		out = append(out, 0, 0, 0, byte(r.Intn(1+r.Intn(5))))
	}
	for range r.Intn(3) {
		if len(out) > 0 {
			out[r.Intn(len(out))] = byte(r.Intn(256))
		}
	}
	for range r.Intn(3) {
		at := r.Intn(len(out) + 1)
		out = slices.Insert(out, at, byte(r.Intn(3)))
	}
	return string(out[:len(out)-r.Intn(len(out)/8+1)])
}

func TestDrawnBytes(t *testing.T) {
	r := rand.New(rand.NewSource(10))
	seen := map[api.Errno]int{} // lists, but those with nothing in them, by what was answered
	for range 60000 {
		bytes := drawnBytes(r)
		c := api.Cursor{Bytes: bytes, At: r.Intn(1 + r.Intn(len(bytes)+1))}
		left := bytes[c.At:]

		want := reader{bytes: left}
		n := want.number()
		checkTakeNumber(t, c, n, want.then(c), want.e)
		if want.e == api.OK {
			checkNumber(t, n, left[:4], api.OK)
		}

		want = reader{bytes: left}
		s := want.text()
		checkTakeText(t, c, s, want.then(c), want.e)
		if want.e == api.OK {
			checkText(t, s, left[:len(left)-len(want.bytes)], api.OK)
		}

		want = reader{bytes: left}
		l := want.list()
		checkTakeList(t, c, l, want.then(c), want.e)
		if want.e == api.OK {
			checkList(t, l, left[:len(left)-len(want.bytes)], api.OK)
		}
		if want.e != api.OK || len(l) > 0 {
			seen[want.e]++
		}
	}
	for _, e := range []api.Errno{api.OK, api.ErrShort, api.ErrForm} {
		if seen[e] < 2000 {
			t.Error("too few are drawn:", seen)
		}
	}
}

func TestDrawnLists(t *testing.T) {
	r := rand.New(rand.NewSource(11))
	for range 5000 {
		l := make([]string, r.Intn(20))
		for i := range l {
			l[i] = sample(r.Intn(30))
		}
		bytes, e := codec.List(l...)
		behind := sample(r.Intn(30))
		c := api.Cursor{Bytes: bytes + behind}
		checkTakeList(t, c, l, moved(c, len(bytes)), e)
		again, _, _ := codec.TakeList(c)
		checkList(t, again, bytes, api.OK)
	}
}

// R3 and R4

func TestListsAreNotWrittenInto(t *testing.T) {
	room := []string{"a", "", "bc", "d", "e"}
	want := slices.Clone(room)
	for n := range room {
		if _, e := codec.List(room[:n]...); e != api.OK || !slices.Equal(room, want) {
			t.Fatalf("%d: %q, error %d", n, room, e)
		}
	}
}

func TestListsAreTheirOwners(t *testing.T) {
	for _, l := range lists() {
		bytes, _ := codec.List(l...)
		c := api.Cursor{Bytes: bytes}
		first, _, _ := codec.TakeList(c)
		second, _, _ := codec.TakeList(c)
		// Spare room too: what is put behind one is not behind the other.
		room := second[:cap(second)]
		for i := range room {
			room[i] = "other"
		}
		_ = append(second, "more")
		if !slices.Equal(first, l) {
			t.Errorf("%d texts: two answers share their memory", len(l))
		}
		checkTakeList(t, c, l, moved(c, len(bytes)), api.OK)
	}
}

// within tells whether a text's bytes lie where another's do.
func within(s, all string) bool {
	at, from := uintptr(unsafe.Pointer(unsafe.StringData(s))), uintptr(unsafe.Pointer(unsafe.StringData(all)))
	return len(s) > 0 && at >= from && at < from+uintptr(len(all))
}

func TestWhatComesOutIsNewMemory(t *testing.T) {
	bytes := listBytes("abc", "", "defg")
	c := api.Cursor{Bytes: bytes}
	l, _, _ := codec.TakeList(c)
	for _, s := range l {
		if within(s, bytes) {
			t.Errorf("%q of a list", s)
		}
	}
	if s, _, _ := codec.TakeText(moved(c, 4)); s != "abc" || within(s, bytes) {
		t.Errorf("%q", s)
	}
	s := sample(100)
	written, _ := codec.Text(s)
	list, _ := codec.List(s)
	if within(s, written) || within(s, list) {
		t.Error("what is written holds what was handed in")
	}
}

func TestAllAtOnce(t *testing.T) {
	l := lists()[13]
	bytes := listBytes(l...)
	c := api.Cursor{Bytes: "?" + bytes, At: 1}
	var all sync.WaitGroup
	for range 8 {
		all.Go(func() {
			for range 50 {
				checkList(t, l, bytes, api.OK)
				checkTakeList(t, c, l, moved(c, len(bytes)), api.OK)
				checkTakeNumber(t, c, len(l), moved(c, 4), api.OK)
			}
		})
	}
	all.Wait()
}
