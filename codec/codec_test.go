package codec_test

import (
	"strings"
	"testing"

	"columbarium/api"
	"columbarium/codec"
)

// J1

func checkNumber(t *testing.T, n int, want string, e api.Errno) {
	t.Helper()
	if got, f := codec.Number(n); got != want || f != e {
		t.Errorf("%d: %x, error %d, want %x, error %d", n, got, f, want, e)
	}
}

func TestNumberAsDocumented(t *testing.T) {
	checkNumber(t, 0, "\x00\x00\x00\x00", api.OK)
	checkNumber(t, 1, "\x00\x00\x00\x01", api.OK)
	checkNumber(t, 256, "\x00\x00\x01\x00", api.OK)
	checkNumber(t, 0x01020304, "\x01\x02\x03\x04", api.OK)
	checkNumber(t, 0x10000ff, "\x01\x00\x00\xff", api.OK)
	checkNumber(t, 1<<31-1, "\x7f\xff\xff\xff", api.OK)
	for _, n := range numbers() {
		checkNumber(t, n, numberBytes(n), api.OK)
	}
}

func TestNumberRefuses(t *testing.T) {
	for _, n := range wrongNumbers() {
		checkNumber(t, n, "", api.ErrArg)
	}
}

func checkText(t *testing.T, s, want string, e api.Errno) {
	t.Helper()
	if got, f := codec.Text(s); got != want || f != e {
		t.Errorf("%d bytes (%q): %d bytes (%q), error %d, want %d bytes (%q), error %d", len(s), short(s), len(got), short(got), f, len(want), short(want), e)
	}
}

func TestTextAsDocumented(t *testing.T) {
	checkText(t, "", "\x00\x00\x00\x00", api.OK)
	checkText(t, "abc", "\x00\x00\x00\x03abc", api.OK)
	checkText(t, "äöü", "\x00\x00\x00\x06äöü", api.OK)
	for _, s := range texts() {
		checkText(t, s, textBytes(s), api.OK)
	}
}

// A text may have more bytes than leave room for their number.
func TestLongestText(t *testing.T) {
	s := sample(65536)
	checkText(t, s, "\x00\x01\x00\x00"+s, api.OK)
	checkText(t, s[1:], "\x00\x00\xff\xff"+s[1:], api.OK)
}

func TestTextRefuses(t *testing.T) {
	for _, s := range longTexts() {
		checkText(t, s, "", api.ErrLong)
	}
}

func checkList(t *testing.T, l []string, want string, e api.Errno) {
	t.Helper()
	if got, f := codec.List(l...); got != want || f != e {
		t.Errorf("%d texts: %d bytes (%q), error %d, want %d bytes (%q), error %d", len(l), len(got), short(got), f, len(want), short(want), e)
	}
}

func TestListAsDocumented(t *testing.T) {
	checkList(t, []string{"a", ""}, "\x00\x00\x00\x02\x00\x00\x00\x01a\x00\x00\x00\x00", api.OK)
	checkList(t, []string{"", "a"}, "\x00\x00\x00\x02\x00\x00\x00\x00\x00\x00\x00\x01a", api.OK)
	checkList(t, nil, "\x00\x00\x00\x00", api.OK)
	checkList(t, []string{""}, "\x00\x00\x00\x01\x00\x00\x00\x00", api.OK)
	checkList(t, make([]string, 1000), "\x00\x00\x03\xe8"+strings.Repeat("\x00\x00\x00\x00", 1000), api.OK)
	for _, l := range lists() {
		checkList(t, l, listBytes(l...), api.OK)
	}
}

func TestListRefuses(t *testing.T) {
	for _, l := range longLists() {
		checkList(t, l, "", api.ErrLong)
	}
}

// J2

func TestTakeNumber(t *testing.T) {
	c := api.Cursor{Bytes: "?\x01\x02\x03\x04\x7f\xff\xff\xff", At: 1}
	checkTakeNumber(t, c, 0x01020304, moved(c, 4), api.OK)
	checkTakeNumber(t, moved(c, 1), 0x0203047f, moved(c, 5), api.OK)
	checkTakeNumber(t, moved(c, 4), 1<<31-1, moved(c, 8), api.OK)
	for _, n := range numbers() {
		for _, c := range places(numberBytes(n)) {
			checkTakeNumber(t, c, n, moved(c, 4), api.OK)
		}
	}
}

func TestTooFewBytesForANumber(t *testing.T) {
	// It is told ahead of what the bytes would be.
	for _, first := range []string{"\x00\x00\x00", "\x01\x02\x03", "\x7f\xff\xff", "\x80\x00\x00", "\xff\xff\xff"} {
		for n := range 4 {
			for _, c := range endings(first[:n]) {
				checkNone(t, c, api.ErrShort, api.ErrShort, api.ErrShort)
			}
		}
	}
}

func TestNumbersThatAreTooGreat(t *testing.T) {
	bytes := []string{"\x80\x00\x00\x00", "\x80\x00\x00\x01", "\x80\x00\x03\xe8", "\x81\x02\x03\x04", "\xff\x00\x00\x00", "\xff\xff\xff\xff"}
	for first := 128; first < 256; first++ {
		bytes = append(bytes, string([]byte{byte(first), 0, 0, byte(first)}))
	}
	for _, s := range bytes {
		for _, c := range places(s) {
			checkNone(t, c, api.ErrForm, api.ErrForm, api.ErrForm)
		}
	}
}

func TestWrongCursors(t *testing.T) {
	for i, c := range wrongCursors() {
		checkNone(t, c, api.ErrArg, api.ErrArg, api.ErrArg)
		if e := codec.End(c); e != api.ErrArg {
			t.Errorf("%d: %d bytes, at %d: End: error %d", i, len(c.Bytes), c.At, e)
		}
	}
	// All places of a few bytes, and beyond them.
	bytes := "\x00\x00\x00\x00\x00\x00"
	for at := -3; at <= 9; at++ {
		c := api.Cursor{Bytes: bytes, At: at}
		switch {
		case at < 0 || at > 6:
			checkNone(t, c, api.ErrArg, api.ErrArg, api.ErrArg)
		case at > 2:
			checkNone(t, c, api.ErrShort, api.ErrShort, api.ErrShort)
		default:
			checkTakeNumber(t, c, 0, moved(c, 4), api.OK)
			checkTakeText(t, c, "", moved(c, 4), api.OK)
			checkTakeList(t, c, nil, moved(c, 4), api.OK)
		}
	}
}

// J3

func TestTakeText(t *testing.T) {
	c := api.Cursor{Bytes: "?\x00\x00\x00\x03abcd", At: 1}
	checkTakeText(t, c, "abc", moved(c, 7), api.OK)
	c = api.Cursor{Bytes: "\x00\x00\x00\x00abcd"}
	checkTakeText(t, c, "", moved(c, 4), api.OK)
	for _, s := range texts() {
		for _, c := range places(textBytes(s)) {
			checkTakeText(t, c, s, moved(c, 4+len(s)), api.OK)
		}
	}
}

// As many bytes as a right cursor has room for behind their number.
func TestLongestTextThatIsTaken(t *testing.T) {
	s := sample(api.MaxText - 4)
	c := api.Cursor{Bytes: "\x00\x00\xff\xfc" + s}
	checkTakeText(t, c, s, moved(c, api.MaxText), api.OK)
	c.Bytes = "\x00\x00\xff\xfd" + s
	checkTakeText(t, c, "", c, api.ErrShort)
}

func TestTooFewBytesForAText(t *testing.T) {
	for _, told := range []int{1, 2, 255, 256, 257, 1000, 1001, 65532, 65533, 65536, 65537, 1 << 24, 1<<31 - 1} {
		for _, less := range []int{1, 2, 3, 4, 5, told / 2, told} {
			left := told - less
			if less < 1 || left < 0 || left > api.MaxText-4 {
				continue
			}
			for _, c := range endings(numberBytes(told) + sample(left)) {
				checkTakeText(t, c, "", c, api.ErrShort)
				checkTakeNumber(t, c, told, moved(c, 4), api.OK)
			}
		}
	}
	for _, c := range places("\x7f\xff\xff\xff") {
		checkTakeText(t, c, "", c, api.ErrShort)
	}
}

// J4

func TestTakeList(t *testing.T) {
	c := api.Cursor{Bytes: "?\x00\x00\x00\x02\x00\x00\x00\x01a\x00\x00\x00\x00?", At: 1}
	checkTakeList(t, c, []string{"a", ""}, moved(c, 13), api.OK)
	c = api.Cursor{Bytes: "\x00\x00\x00\x00\x00\x00\x00\x01a"}
	checkTakeList(t, c, nil, moved(c, 4), api.OK)
	for _, l := range lists() {
		bytes := listBytes(l...)
		for _, c := range places(bytes) {
			checkTakeList(t, c, l, moved(c, len(bytes)), api.OK)
		}
	}
}

func TestListsOfTooMany(t *testing.T) {
	// It is told ahead of texts that are missing, or may not be.
	for _, many := range []int{1001, 1002, 1024, 2000, 16384, 65535, 65536, 1 << 24, 1<<31 - 1} {
		for _, behind := range []string{"", "\x00", "\x00\x00\x00\x01", "\x80\x00\x00\x00", strings.Repeat("\x00\x00\x00\x00", many%16384)} {
			if 4+len(behind) > api.MaxText {
				continue
			}
			for _, c := range endings(numberBytes(many) + behind) {
				checkTakeList(t, c, nil, c, api.ErrForm)
			}
		}
	}
}

func TestListsWithTextsThatCantBeTaken(t *testing.T) {
	great, none, some := "\x80\x00\x00\x00", "\x00\x00\x00\x00", "\x00\x00\x00\x02ab"
	for i, x := range []struct {
		many  int
		texts string
		e     api.Errno
	}{
		{1, "", api.ErrShort},
		{1000, "", api.ErrShort},
		{1, "\x00\x00\x00", api.ErrShort},
		{1, "\x80\x00\x00", api.ErrShort},
		{1, some[:5], api.ErrShort},
		{1, "\x7f\xff\xff\xff" + sample(100), api.ErrShort},
		{1, great, api.ErrForm},
		{1, "\xff\xff\xff\xff" + sample(100), api.ErrForm},
		{2, some, api.ErrShort},
		{2, some + "\x00", api.ErrShort},
		{2, some + some[:5], api.ErrShort},
		{2, some + great, api.ErrForm},
		{2, great + some, api.ErrForm},
		{3, none + none, api.ErrShort},
		{3, none + great + none, api.ErrForm},
		// The first one that can't be taken is told, whatever stands behind it.
		{2, great + "\x00\x00\x00", api.ErrForm},
		{3, none + "\x00\x00\xff\xff" + great, api.ErrShort},
		{3, some + great + "\x00\x00\xff\xff", api.ErrForm},
		{1000, strings.Repeat(none, 999), api.ErrShort},
		{1000, strings.Repeat(none, 999) + "\x00\x00\x00", api.ErrShort},
		{1000, strings.Repeat(none, 999) + "\x00\x00\x00\x01", api.ErrShort},
		{1000, strings.Repeat(none, 999) + great, api.ErrForm},
		{1000, strings.Repeat(some, 999) + great, api.ErrForm},
	} {
		for _, c := range endings(numberBytes(x.many) + x.texts) {
			checkTakeList(t, c, nil, c, x.e)
			checkTakeNumber(t, c, x.many, moved(c, 4), api.OK)
		}
		if t.Failed() {
			t.Fatal(i)
		}
	}
}

func TestEnd(t *testing.T) {
	most := sample(api.MaxText)
	for i, x := range []struct {
		c api.Cursor
		e api.Errno
	}{
		{api.Cursor{}, api.OK},
		{api.Cursor{Bytes: "a", At: 1}, api.OK},
		{api.Cursor{Bytes: "äöü", At: 6}, api.OK},
		{api.Cursor{Bytes: most, At: api.MaxText}, api.OK},
		{api.Cursor{Bytes: "a"}, api.ErrForm},
		{api.Cursor{Bytes: "\x00"}, api.ErrForm},
		{api.Cursor{Bytes: "abcdef", At: 5}, api.ErrForm},
		{api.Cursor{Bytes: "äöü", At: 3}, api.ErrForm},
		{api.Cursor{Bytes: most}, api.ErrForm},
		{api.Cursor{Bytes: most, At: api.MaxText - 1}, api.ErrForm},
	} {
		if e := codec.End(x.c); e != x.e {
			t.Errorf("%d: %d bytes, at %d: error %d, want %d", i, len(x.c.Bytes), x.c.At, e, x.e)
		}
	}
}

func TestOneBehindTheOther(t *testing.T) {
	c := api.Cursor{Bytes: "\x00\x00\x00\x07" + "\x00\x00\x00\x01a" + "\x00\x00\x00\x01\x00\x00\x00\x01b"}
	n, c, e := codec.TakeNumber(c)
	s, c, f := codec.TakeText(c)
	if g := codec.End(c); n != 7 || s != "a" || e != api.OK || f != api.OK || g != api.ErrForm {
		t.Fatal(n, s, e, f, g)
	}
	l, c, e := codec.TakeList(c)
	if g := codec.End(c); len(l) != 1 || l[0] != "b" || e != api.OK || g != api.OK {
		t.Fatal(l, e, g)
	}
	checkNone(t, c, api.ErrShort, api.ErrShort, api.ErrShort)
}
