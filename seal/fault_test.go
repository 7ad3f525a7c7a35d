package seal

import (
	"errors"
	"strings"
	"testing"

	"columbarium/api"
)

// The ways of the chapter: what is wrong goes up by a panic with a struct, and frames are variadic.

// caughtOf is what goes up out of a piece of work.
func caughtOf(work func()) (caught any) {
	defer func() { caught = recover() }()
	work()
	return nil
}

func TestFaultsGoUp(t *testing.T) {
	nonce, with := strings.Repeat("n", nonceSize), strings.Repeat("w", api.MaxWith)
	for i, x := range []struct {
		work func()
		want any
	}{
		{func() { must(true, api.ErrTag) }, nil},
		{func() { must(false, api.ErrTag) }, fault{api.ErrTag}},
		{func() { sound("x", api.OK) }, nil},
		{func() { sound("", api.ErrLong) }, fault{api.ErrLong}},
		{func() { sealerOfKey("k") }, fault{api.ErrArg}},
		{func() { sealerOf(strings.Repeat("k", keySize), nonce, with) }, nil},
		{func() { sealerOf(strings.Repeat("k", keySize), nonce, with+"w") }, fault{api.ErrArg}},
		{func() { sealer{}.xor("x") }, fault{api.ErrArg}},
	} {
		if got := caughtOf(x.work); got != x.want {
			t.Errorf("%d: %v, want %v", i, got, x.want)
		}
	}
}

func TestErrorsOfFaults(t *testing.T) {
	if e := errorOf(nil); e != api.OK {
		t.Errorf("of nothing: %d", e)
	}
	for _, want := range []api.Errno{api.ErrArg, api.ErrLong, api.ErrShort, api.ErrTag} {
		if e := errorOf(fault{want}); e != want {
			t.Errorf("%d, want %d", e, want)
		}
	}
	// What is no fault is not told as an error, but goes on as it is.
	for _, other := range []any{"text", api.ErrTag, errors.New("another one")} {
		if got := caughtOf(func() { errorOf(other) }); got != other {
			t.Errorf("%v, want %v", got, other)
		}
	}
}

func TestFrames(t *testing.T) {
	long := strings.Repeat("l", api.MaxText)
	for _, x := range []struct {
		texts []string
		want  string
	}{
		{nil, ""},
		{[]string{""}, "\x00\x00\x00\x00"},
		{[]string{"", ""}, "\x00\x00\x00\x00\x00\x00\x00\x00"},
		{[]string{"ab"}, "\x00\x00\x00\x02ab"},
		{[]string{"ä", "\x00", ""}, "\x00\x00\x00\x02ä\x00\x00\x00\x01\x00\x00\x00\x00\x00"},
		{[]string{long[:255]}, "\x00\x00\x00\xff" + long[:255]},
		{[]string{long[:256], "b"}, "\x00\x00\x01\x00" + long[:256] + "\x00\x00\x00\x01b"},
		{[]string{long}, "\x00\x01\x00\x00" + long},
		{[]string{strings.Repeat(long, 256)}, "\x01\x00\x00\x00" + strings.Repeat(long, 256)},
	} {
		if got := frames(x.texts...); got != x.want {
			t.Errorf("of %d texts: %d bytes, want %d", len(x.texts), len(got), len(x.want))
		}
	}
}
