package wire

import (
	"testing"

	"columbarium/api"
)

// The ways of the chapter: a reader whose methods take one thing each, and functions of anything that find what may not be.

func TestReaderTakesOneThingEach(t *testing.T) {
	r := readerOf("\x00\x00\x00\x07" + "\x00\x00\x00\x01\x00\x00\x00\x01a" + "\x00\x00\x00\x09")
	if n := r.number(); n != 7 || r.at.At != 4 || r.e != api.OK {
		t.Error(n, r.at.At, r.e)
	}
	if l := r.list(); len(l) != 1 || l[0] != "a" || r.at.At != 13 || r.e != api.OK {
		t.Error(l, r.at.At, r.e)
	}
	if n := r.number(); n != 9 || r.at.At != 17 || r.e != api.OK {
		t.Error(n, r.at.At, r.e)
	}
	if e := r.end(); e != api.OK {
		t.Error(e)
	}
}

func TestReaderKeepsTheFirstError(t *testing.T) {
	for i, x := range []struct {
		bytes string
		e     api.Errno
	}{
		{"\x80\x00\x00\x00", api.ErrForm},
		{"\x80\x00\x00\x00\x00\x00\x00\x00", api.ErrForm},
		{"\x00", api.ErrShort},
		{"", api.ErrShort},
		{string(make([]byte, api.MaxText+1)), api.ErrLong},
	} {
		r := readerOf(x.bytes)
		for range 2 {
			n, l, e := r.number(), r.list(), r.end()
			if n != 0 || len(l) > 0 || e != x.e || r.at.At != 0 {
				t.Errorf("%d: %d, %q, error %d, at %d", i, n, l, e, r.at.At)
			}
		}
	}
}

func TestReaderAtTheEnd(t *testing.T) {
	r := readerOf("")
	if e := r.end(); e != api.OK {
		t.Error(e)
	}
	r = readerOf("\x00\x00\x00\x00x")
	if n, e := r.number(), r.end(); n != 0 || e != api.ErrForm {
		t.Error(n, e)
	}
	r = readerOf(string(make([]byte, api.MaxText)))
	if e := r.end(); e != api.ErrForm {
		t.Error(e)
	}
}

func TestWhatMayNotBeIsFound(t *testing.T) {
	if wrong(isLabel) || wrong(isNumber, 0, 1, 1<<31-1) || wrong(isCellOrNone, "", string(make([]byte, 40)), "") {
		t.Error("found where nothing is")
	}
	if !wrong(isLabel, "") || !wrong(isNumber, 0, 1, 1<<31) || !wrong(isNumber, -1, 0) || !wrong(isNumber, 0, -1, 0) || !wrong(isCellOrNone, "", "a", "") {
		t.Error("not found")
	}
}

func TestWhatIsThereTwiceIsFound(t *testing.T) {
	if twice[string]() || twice(5) || twice("a", "b", "") || twice([2]int{1, 2}, [2]int{2, 1}) {
		t.Error("found where nothing is")
	}
	if !twice(5, 5) || !twice("a", "b", "a") || !twice("", "b", "") || !twice([2]int{1, 2}, [2]int{2, 1}, [2]int{2, 1}) {
		t.Error("not found")
	}
}

func TestPartsArePutTogether(t *testing.T) {
	if got := together(); got != "" {
		t.Errorf("%q", got)
	}
	if got := together("a", "", "bc", "a"); got != "abca" {
		t.Errorf("%q", got)
	}
}

func TestWhole(t *testing.T) {
	even := func(n int) bool { return n%2 == 0 }
	for i, x := range []struct {
		one  int
		e    api.Errno
		want int
		f    api.Errno
	}{{4, api.OK, 4, api.OK}, {5, api.OK, 0, api.ErrForm}, {4, api.ErrShort, 0, api.ErrShort}, {5, api.ErrLong, 0, api.ErrLong}} {
		if got, f := whole(x.one, x.e, even); got != x.want || f != x.f {
			t.Errorf("%d: %d, error %d", i, got, f)
		}
	}
}
