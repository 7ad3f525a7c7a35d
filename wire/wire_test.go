package wire_test

import (
	"strings"
	"testing"

	"columbarium/api"
)

// K1

func TestRequestsAsDocumented(t *testing.T) {
	a, b, c := strings.Repeat("a", 16), strings.Repeat("b", 16), strings.Repeat("c", 40)
	for _, x := range []struct {
		q     api.Request
		bytes string
	}{
		{api.Request{Kind: api.Stats}, "\x00\x00\x00\x04" + "\x00\x00\x00\x00" + "\x00\x00\x00\x00"},
		{api.Request{Kind: api.Put}, "\x00\x00\x00\x01" + "\x00\x00\x00\x00" + "\x00\x00\x00\x00"},
		{api.Request{Kind: api.Get, Labels: []string{a}}, "\x00\x00\x00\x02" + "\x00\x00\x00\x01\x00\x00\x00\x10" + a + "\x00\x00\x00\x00"},
		{api.Request{Kind: api.Del, Labels: []string{b, a}}, "\x00\x00\x00\x03" + "\x00\x00\x00\x02\x00\x00\x00\x10" + b + "\x00\x00\x00\x10" + a + "\x00\x00\x00\x00"},
		{api.Request{Kind: api.Put, Labels: []string{a, b}, Cells: []string{c, c}}, "\x00\x00\x00\x01" + "\x00\x00\x00\x02\x00\x00\x00\x10" + a + "\x00\x00\x00\x10" + b + "\x00\x00\x00\x02\x00\x00\x00\x28" + c + "\x00\x00\x00\x28" + c},
	} {
		checkEncode(t, x.q, x.bytes, api.OK)
		checkDecode(t, x.bytes, x.q, api.OK)
	}
}

func TestRequestsThatMayBe(t *testing.T) {
	for _, q := range rightRequests() {
		checkEncode(t, q, requestBytes(q), api.OK)
		checkDecode(t, requestBytes(q), q, api.OK)
	}
}

func TestRequestsThatMayNotBe(t *testing.T) {
	for _, q := range wrongRequests() {
		checkEncode(t, q, "", api.ErrArg)
		if !fits(q.Kind) {
			continue
		}
		bytes := requestBytes(q)
		if len(bytes) > api.MaxText {
			noRequest(t, bytes, api.ErrLong)
		} else {
			noRequest(t, bytes, api.ErrForm)
		}
	}
}

func TestHugeLists(t *testing.T) {
	huge := make([]string, 1<<22)
	checkEncode(t, api.Request{Kind: api.Put, Labels: huge, Cells: huge}, "", api.ErrArg)
	checkEncode(t, api.Request{Kind: api.Get, Labels: huge}, "", api.ErrArg)
	checkEncode(t, api.Request{Kind: api.Stats, Cells: huge}, "", api.ErrArg)
	checkAnswer(t, api.Response{Kind: api.Get, Cells: huge}, "", api.ErrArg)
	checkAnswer(t, api.Response{Kind: api.Put, Cells: huge}, "", api.ErrArg)
}

// nothing, and one, are lists; what else can't be taken.
const (
	nothing = "\x00\x00\x00\x00"
	one     = "\x00\x00\x00\x01\x00\x00\x00\x10sixteen letters."
	great   = "\x80\x00\x00\x00"     // no number
	tooMany = "\x00\x00\x03\xe9"     // no list
	missing = "\x00\x00\x00\x01"     // a list whose text is not there
	oddList = "\x00\x00\x00\x01\xff" // a list whose text's length is not there
	badText = "\x00\x00\x00\x02\x00\x00\x00\x00\x80\x00\x00\x00"
	small   = "\x00\x00\x00\x01\x00\x00\x00\x01a" // a list of what is neither label nor cell
)

func TestTheFirstErrorOfARequest(t *testing.T) {
	put, get, kind9 := numberBytes(1), numberBytes(2), numberBytes(9)
	for i, x := range []struct {
		bytes string
		e     api.Errno
	}{
		{"", api.ErrShort},
		{"\x00\x00\x00", api.ErrShort},
		{"\xff\xff\xff", api.ErrShort},
		{great, api.ErrForm},
		{great + nothing + nothing, api.ErrForm},
		{great + "\x00", api.ErrForm},
		{great + missing, api.ErrForm},
		{get, api.ErrShort},
		{get + "\x00", api.ErrShort},
		{get + great, api.ErrForm},
		{get + tooMany, api.ErrForm},
		{get + tooMany + nothing, api.ErrForm},
		{get + missing, api.ErrShort},
		{get + oddList, api.ErrShort},
		{get + badText, api.ErrForm},
		{get + badText + nothing, api.ErrForm},
		{get + one, api.ErrShort},
		{get + one + "\x00\x00\x00", api.ErrShort},
		{get + one + great, api.ErrForm},
		{get + one + tooMany, api.ErrForm},
		{get + one + missing, api.ErrShort},
		{get + one + badText, api.ErrForm},
		// What is taken ahead of what is left, and of what may not be.
		{kind9, api.ErrShort},
		{kind9 + nothing, api.ErrShort},
		{kind9 + missing, api.ErrShort},
		{kind9 + nothing + nothing, api.ErrForm},
		{get + small, api.ErrShort},
		{get + small + missing, api.ErrShort},
		{get + small + nothing, api.ErrForm},
		{put + one + missing, api.ErrShort},
		{put + one + small + "x", api.ErrForm},
		{get + one + nothing + "x", api.ErrForm},
		{get + one + nothing + "\x00", api.ErrForm},
		{get + one + nothing + nothing, api.ErrForm},
		{get + one + one, api.ErrForm},
		{put + one + nothing, api.ErrForm},
		{numberBytes(4) + one + nothing, api.ErrForm},
		{numberBytes(4) + nothing + one, api.ErrForm},
	} {
		noRequest(t, x.bytes, x.e)
		if t.Failed() {
			t.Fatal(i)
		}
	}
	checkDecode(t, get+one+nothing, api.Request{Kind: api.Get, Labels: []string{"sixteen letters."}}, api.OK)
}

func TestRequestsThatEndEarly(t *testing.T) {
	for _, q := range []api.Request{{Kind: api.Stats}, {Kind: api.Get, Labels: labels(3)}, {Kind: api.Put, Labels: labels(2), Cells: cells(2)}} {
		bytes := requestBytes(q)
		for n := range len(bytes) {
			noRequest(t, bytes[:n], api.ErrShort)
		}
		for _, more := range []string{"\x00", "x", "\xff\xff\xff\xff", bytes} {
			noRequest(t, bytes+more, api.ErrForm)
		}
	}
}

// Too many bytes are told ahead of all else, whatever they are.
func TestRequestsOfTooManyBytes(t *testing.T) {
	for _, ahead := range []string{"", nothing, great, requestBytes(api.Request{Kind: api.Stats}), requestBytes(rightRequests()[3]), "\x00\x00\x00\x02" + missing} {
		for _, x := range []struct {
			size int
			e    api.Errno
		}{{api.MaxText - 1, api.ErrForm}, {api.MaxText, api.ErrForm}, {api.MaxText + 1, api.ErrLong}, {api.MaxText + 4, api.ErrLong}, {2 * api.MaxText, api.ErrLong}, {1 << 22, api.ErrLong}} {
			noRequest(t, ahead+strings.Repeat("\xff", x.size-len(ahead)), x.e)
		}
	}
	noRequest(t, strings.Repeat("ä", api.MaxText/2)+"a", api.ErrLong)
	// All the bytes that may be are taken, but what is there may not be.
	all := "\x00\x00\x00\x02\x00\x00\x00\x01\x00\x00\xff\xf0" + sample(65520) + nothing
	noRequest(t, all[:len(all)-1], api.ErrShort)
	noRequest(t, all, api.ErrForm)
	noRequest(t, all+"\x00", api.ErrLong)
	noRequest(t, "\x00\x00\x00\x02\x00\x00\x00\x01\x00\x01\x00\x00"+sample(api.MaxText), api.ErrLong)
}

// K2

func TestResponsesAsDocumented(t *testing.T) {
	c := strings.Repeat("c", 40)
	for _, x := range []struct {
		a     api.Response
		bytes string
	}{
		{api.Response{}, strings.Repeat("\x00", 20)},
		{api.Response{Kind: api.Put}, "\x00\x00\x00\x01" + strings.Repeat("\x00", 16)},
		{api.Response{Kind: api.Put, Status: api.Full}, "\x00\x00\x00\x01\x00\x00\x00\x01" + strings.Repeat("\x00", 12)},
		{api.Response{Kind: api.Put, Status: api.Taken}, "\x00\x00\x00\x01\x00\x00\x00\x02" + strings.Repeat("\x00", 12)},
		{api.Response{Kind: api.Get, Cells: []string{"", c}}, "\x00\x00\x00\x02" + nothing + "\x00\x00\x00\x02\x00\x00\x00\x00\x00\x00\x00\x28" + c + nothing + nothing},
		{api.Response{Kind: api.Del, Many: 258}, "\x00\x00\x00\x03" + nothing + nothing + "\x00\x00\x01\x02" + nothing},
		{api.Response{Kind: api.Stats, Many: 7, Room: 1<<31 - 1}, "\x00\x00\x00\x04" + nothing + nothing + "\x00\x00\x00\x07" + "\x7f\xff\xff\xff"},
	} {
		checkAnswer(t, x.a, x.bytes, api.OK)
		checkRead(t, x.bytes, x.a, api.OK)
	}
}

func TestResponsesThatMayBe(t *testing.T) {
	for _, a := range rightResponses() {
		checkAnswer(t, a, responseBytes(a), api.OK)
		checkRead(t, responseBytes(a), a, api.OK)
	}
}

func TestResponsesThatMayNotBe(t *testing.T) {
	for _, a := range wrongResponses() {
		checkAnswer(t, a, "", api.ErrArg)
		if !fits(a.Kind) || !fits(a.Status) || !fits(a.Many) || !fits(a.Room) {
			continue
		}
		bytes := responseBytes(a)
		if len(bytes) > api.MaxText {
			noResponse(t, bytes, api.ErrLong)
		} else {
			noResponse(t, bytes, api.ErrForm)
		}
	}
}

func TestTheFirstErrorOfAResponse(t *testing.T) {
	put, get, kind9 := numberBytes(1), numberBytes(2), numberBytes(9)
	for i, x := range []struct {
		bytes string
		e     api.Errno
	}{
		{"", api.ErrShort},
		{"\xff\xff\xff", api.ErrShort},
		{great, api.ErrForm},
		{great + "\x00", api.ErrForm},
		{put, api.ErrShort},
		{put + "\x80\x00\x00", api.ErrShort},
		{put + great, api.ErrForm},
		{put + great + "\x00", api.ErrForm},
		{get + nothing, api.ErrShort},
		{get + nothing + great, api.ErrForm},
		{get + nothing + tooMany, api.ErrForm},
		{get + nothing + missing, api.ErrShort},
		{get + nothing + oddList, api.ErrShort},
		{get + nothing + badText, api.ErrForm},
		{get + nothing + nothing, api.ErrShort},
		{get + nothing + nothing + great, api.ErrForm},
		{get + nothing + nothing + great + "\x00", api.ErrForm},
		{get + nothing + nothing + nothing, api.ErrShort},
		{get + nothing + nothing + nothing + "\x80\x00\x00", api.ErrShort},
		{get + nothing + nothing + nothing + great, api.ErrForm},
		// What is taken ahead of what is left, and of what may not be.
		{kind9, api.ErrShort},
		{kind9 + kind9 + small + kind9, api.ErrShort},
		{kind9 + kind9 + missing, api.ErrShort},
		{kind9 + kind9 + small + kind9 + kind9, api.ErrForm},
		{get + nothing + small, api.ErrShort},
		{get + nothing + small + nothing + "\x00", api.ErrShort},
		{get + nothing + small + nothing + nothing, api.ErrForm},
		{get + nothing + one + nothing + nothing, api.ErrForm},
		{get + nothing + nothing + nothing + nothing + "x", api.ErrForm},
		{get + nothing + nothing + nothing + nothing + "\x00", api.ErrForm},
		{get + nothing + nothing + nothing + nothing + nothing, api.ErrForm},
	} {
		noResponse(t, x.bytes, x.e)
		if t.Failed() {
			t.Fatal(i)
		}
	}
	checkRead(t, get+nothing+nothing+nothing+nothing, api.Response{Kind: api.Get}, api.OK)
}

func TestResponsesThatEndEarly(t *testing.T) {
	for _, a := range []api.Response{{}, {Kind: api.Put, Status: api.Taken}, {Kind: api.Get, Cells: with(cells(3), 1, "")}, {Kind: api.Stats, Many: 1, Room: 2}} {
		bytes := responseBytes(a)
		for n := range len(bytes) {
			noResponse(t, bytes[:n], api.ErrShort)
		}
		for _, more := range []string{"\x00", "x", "\xff\xff\xff\xff", bytes} {
			noResponse(t, bytes+more, api.ErrForm)
		}
	}
}

func TestResponsesOfTooManyBytes(t *testing.T) {
	for _, ahead := range []string{"", nothing, great, responseBytes(api.Response{}), responseBytes(api.Response{Kind: api.Get, Cells: cells(2)}), "\x00\x00\x00\x02" + nothing + missing} {
		for _, x := range []struct {
			size int
			e    api.Errno
		}{{api.MaxText - 1, api.ErrForm}, {api.MaxText, api.ErrForm}, {api.MaxText + 1, api.ErrLong}, {api.MaxText + 4, api.ErrLong}, {2 * api.MaxText, api.ErrLong}, {1 << 22, api.ErrLong}} {
			noResponse(t, ahead+strings.Repeat("\xff", x.size-len(ahead)), x.e)
		}
	}
	noResponse(t, strings.Repeat("ä", api.MaxText/2)+"a", api.ErrLong)
	// All the bytes that may be are taken, but what is there may not be.
	all := "\x00\x00\x00\x02" + nothing + "\x00\x00\x00\x01\x00\x00\xff\xe8" + sample(65512) + nothing + nothing
	noResponse(t, all[:len(all)-1], api.ErrShort)
	noResponse(t, all, api.ErrForm)
	noResponse(t, all+"\x00", api.ErrLong)
}
