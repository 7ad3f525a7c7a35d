package wire_test

import (
	"encoding/binary"
	"math"
	"math/rand"
	"slices"
	"strings"
	"testing"

	"columbarium/api"
	"columbarium/wire"
)

// sample is n bytes of all values, without a short period.
func sample(n int) string {
	b := make([]byte, n)
	rand.New(rand.NewSource(int64(n) + 11)).Read(b)
	return string(b)
}

// labels are so many, each another one; cells too.
func labels(n int) []string { return numbered(n, 16) }

func cells(n int) []string { return numbered(n, 40) }

func numbered(n, size int) []string {
	var out []string
	for i := range n {
		out = append(out, sample(size-4)+numberBytes(i))
	}
	return out
}

// The bytes are made by the library, whatever they are made of.

func numberBytes(n int) string {
	return string(binary.BigEndian.AppendUint32(nil, uint32(n)))
}

func listBytes(l ...string) string {
	var out strings.Builder
	out.WriteString(numberBytes(len(l)))
	for _, s := range l {
		out.WriteString(numberBytes(len(s)) + s)
	}
	return out.String()
}

func requestBytes(q api.Request) string {
	return numberBytes(q.Kind) + listBytes(q.Labels...) + listBytes(q.Cells...)
}

func responseBytes(a api.Response) string {
	return numberBytes(a.Kind) + numberBytes(a.Status) + listBytes(a.Cells...) + numberBytes(a.Many) + numberBytes(a.Room)
}

func sameRequest(a, b api.Request) bool {
	return a.Kind == b.Kind && slices.Equal(a.Labels, b.Labels) && slices.Equal(a.Cells, b.Cells)
}

func sameResponse(a, b api.Response) bool {
	return a.Kind == b.Kind && a.Status == b.Status && slices.Equal(a.Cells, b.Cells) && a.Many == b.Many && a.Room == b.Room
}

// with is a list in which one thing is another one.
func with(l []string, at int, other string) []string {
	l = slices.Clone(l)
	l[at] = other
	return l
}

// rightLabels are lists of labels that may be: none, as many as may be, and such as are nearly the same.
func rightLabels() [][]string {
	near := []string{strings.Repeat("\x00", 16), strings.Repeat("\xff", 16), strings.Repeat("ä", 8)}
	for at := range 16 {
		near = append(near, strings.Repeat("\x00", at)+"\x01"+strings.Repeat("\x00", 15-at))
	}
	return [][]string{nil, {}, labels(1), labels(2), near, labels(3), labels(199), labels(200)}
}

// wrongLabels are lists of labels that no kind has; one with 16 letters, but more bytes.
func wrongLabels() [][]string {
	out := [][]string{labels(201), labels(202), labels(1000), labels(1001), labels(3000), slices.Repeat(labels(1), 201), make([]string, 201)}
	for _, size := range []int{0, 1, 4, 15, 17, 32, 40, 1000, 60000, 65536} {
		out = append(out, []string{sample(size)}, with(labels(3), 0, sample(size)), with(labels(3), 2, sample(size)), with(labels(200), 150, sample(size)))
	}
	out = append(out, []string{strings.Repeat("ä", 16)})
	for _, n := range []int{2, 3, 17, 200} {
		last := labels(n)[n-1]
		out = append(out, with(labels(n), 0, last), with(labels(n), n-2, last), slices.Repeat(labels(1), n))
	}
	return out
}

// rightCells are so many cells that may be; some are the same.
func rightCells(n int) [][]string {
	letters := slices.Repeat([]string{strings.Repeat("ä", 20)}, n)
	return [][]string{cells(n), slices.Repeat(cells(1), n), letters}
}

// wrongCells are so many, of which one may not be.
func wrongCells(n int) [][]string {
	var out [][]string
	for _, size := range []int{1, 4, 16, 24, 39, 41, 80, 1000, 65536} {
		for _, at := range []int{0, n / 2, n - 1} {
			out = append(out, with(cells(n), at, sample(size)))
		}
	}
	return append(out, with(cells(n), n-1, strings.Repeat("ä", 40)))
}

func wrongKinds() []int {
	return []int{5, 6, 10, 255, 256, 257, 1 << 16, 1<<24 + 1, 1 << 30, 1<<31 - 1, -1, -2, 1 << 31, -1 << 31, -1<<31 + 1, math.MinInt, math.MaxInt}
}

// roundKinds have the last four bytes of a kind that may be.
func roundKinds() []int {
	return []int{1 << 32, 1<<32 + 1, 1<<32 + 2, 3<<32 + 3, 1<<40 + 4, -1<<32 + 1, -1<<32 + 4, math.MinInt + 2}
}

func rightRequests() []api.Request {
	out := []api.Request{{Kind: api.Stats}, {Kind: api.Stats, Labels: []string{}, Cells: []string{}}}
	for _, l := range rightLabels() {
		out = append(out, api.Request{Kind: api.Get, Labels: l}, api.Request{Kind: api.Del, Labels: l}, api.Request{Kind: api.Del, Labels: l, Cells: []string{}})
		for _, c := range rightCells(len(l)) {
			out = append(out, api.Request{Kind: api.Put, Labels: l, Cells: c})
		}
	}
	return out
}

// wrongRequests break one thing each.
func wrongRequests() []api.Request {
	out := []api.Request{{}, {Labels: labels(1)}, {Labels: labels(1), Cells: cells(1)}}
	for _, kind := range append(wrongKinds(), roundKinds()...) {
		out = append(out, api.Request{Kind: kind}, api.Request{Kind: kind, Labels: labels(2)}, api.Request{Kind: kind, Labels: labels(2), Cells: cells(2)})
	}
	for _, l := range wrongLabels() {
		out = append(out, api.Request{Kind: api.Put, Labels: l, Cells: cells(len(l))}, api.Request{Kind: api.Get, Labels: l}, api.Request{Kind: api.Del, Labels: l})
	}
	for _, n := range []int{1, 2, 3, 200} {
		for _, c := range append(wrongCells(n), with(cells(n), n-1, "")) {
			out = append(out, api.Request{Kind: api.Put, Labels: labels(n), Cells: c})
		}
		for _, c := range [][]string{nil, cells(n - 1), cells(n + 1), cells(2 * n), cells(201), make([]string, n)} {
			out = append(out, api.Request{Kind: api.Put, Labels: labels(n), Cells: c})
		}
		for _, c := range [][]string{cells(1), cells(n), {""}, {"a"}, make([]string, n), cells(1000), make([]string, 1001)} {
			out = append(out, api.Request{Kind: api.Get, Labels: labels(n), Cells: c}, api.Request{Kind: api.Del, Labels: labels(n), Cells: c})
			out = append(out, api.Request{Kind: api.Get, Cells: c}, api.Request{Kind: api.Del, Cells: c}, api.Request{Kind: api.Put, Cells: c})
			out = append(out, api.Request{Kind: api.Stats, Labels: labels(n), Cells: c}, api.Request{Kind: api.Stats, Cells: c})
		}
		out = append(out, api.Request{Kind: api.Stats, Labels: labels(n)}, api.Request{Kind: api.Stats, Labels: make([]string, n)})
	}
	return out
}

func rightNumbers() []int {
	return []int{0, 1, 7, 200, 201, 255, 256, 258, 2000, 2001, 65536, 1 << 24, 0x01020304, 1<<31 - 2, 1<<31 - 1}
}

// wrongNumbers are none that may be; roundNumbers neither, though the last four bytes are those of one.
func wrongNumbers() []int {
	return []int{-1, -2, 1 << 31, 1<<31 + 5, 1<<32 - 1, -1 << 31, math.MaxInt}
}

func roundNumbers() []int {
	return []int{1 << 32, 1<<32 + 5, -1 << 32, -1<<32 + 7, math.MinInt}
}

func rightResponses() []api.Response {
	out := []api.Response{{}, {Cells: []string{}}, {Kind: api.Get}, {Kind: api.Get, Cells: []string{}}}
	for status := api.Done; status <= api.Taken; status++ {
		out = append(out, api.Response{Kind: api.Put, Status: status})
	}
	for _, n := range []int{1, 2, 3, 199, 200} {
		for _, c := range append(rightCells(n), make([]string, n), with(cells(n), 0, ""), with(cells(n), n-1, ""), with(make([]string, n), n/2, sample(40))) {
			out = append(out, api.Response{Kind: api.Get, Cells: c})
		}
	}
	for _, n := range rightNumbers() {
		out = append(out, api.Response{Kind: api.Del, Many: n}, api.Response{Kind: api.Stats, Many: n}, api.Response{Kind: api.Stats, Room: n}, api.Response{Kind: api.Stats, Many: n, Room: n}, api.Response{Kind: api.Stats, Many: 1, Room: n})
	}
	return out
}

// wrongResponses break one thing each.
func wrongResponses() []api.Response {
	var out []api.Response
	for _, kind := range append(wrongKinds(), roundKinds()...) {
		out = append(out, api.Response{Kind: kind}, api.Response{Kind: kind, Many: 1}, api.Response{Kind: kind, Status: 1})
	}
	for _, status := range append(wrongKinds(), roundKinds()...) {
		for kind := api.Bad; kind <= api.Stats; kind++ {
			out = append(out, api.Response{Kind: kind, Status: status})
		}
	}
	out = append(out, api.Response{Kind: api.Put, Status: 3}, api.Response{Kind: api.Put, Status: 4})
	for _, n := range []int{1, 2, 200} {
		for _, c := range wrongCells(n) {
			out = append(out, api.Response{Kind: api.Get, Cells: c})
		}
		for _, kind := range []int{api.Bad, api.Put, api.Del, api.Stats} {
			out = append(out, api.Response{Kind: kind, Cells: cells(n)}, api.Response{Kind: kind, Cells: make([]string, n)})
		}
	}
	for _, n := range []int{201, 202, 1000, 1001, 3000} {
		out = append(out, api.Response{Kind: api.Get, Cells: cells(n)}, api.Response{Kind: api.Get, Cells: make([]string, n)})
	}
	for _, kind := range []int{api.Bad, api.Get, api.Del, api.Stats} {
		out = append(out, api.Response{Kind: kind, Status: api.Full}, api.Response{Kind: kind, Status: api.Taken})
	}
	for _, n := range rightNumbers()[1:] {
		for _, kind := range []int{api.Bad, api.Put, api.Get} {
			out = append(out, api.Response{Kind: kind, Many: n}, api.Response{Kind: kind, Room: n})
		}
		out = append(out, api.Response{Kind: api.Del, Room: n}, api.Response{Kind: api.Del, Many: 1, Room: n})
	}
	for _, n := range append(wrongNumbers(), roundNumbers()...) {
		out = append(out, api.Response{Kind: api.Del, Many: n}, api.Response{Kind: api.Stats, Many: n}, api.Response{Kind: api.Stats, Room: n}, api.Response{Kind: api.Stats, Many: n, Room: n}, api.Response{Kind: api.Get, Many: n})
	}
	return out
}

// fits tells whether the bytes of a number tell that number, or one that is too great, and no other one.
func fits(n int) bool {
	return !slices.Contains(roundKinds(), n) && !slices.Contains(roundNumbers(), n)
}

// short tells of bytes what can be read of a failed test.
func short(s string) string {
	if len(s) > 60 {
		return s[:60] + ".."
	}
	return s
}

func checkEncode(t *testing.T, q api.Request, want string, e api.Errno) {
	t.Helper()
	if got, f := wire.Encode(q); got != want || f != e {
		t.Errorf("kind %d, %d labels, %d cells: %d bytes (%x), error %d; want %d bytes (%x), error %d", q.Kind, len(q.Labels), len(q.Cells), len(got), short(got), f, len(want), short(want), e)
	}
}

func checkDecode(t *testing.T, s string, want api.Request, e api.Errno) {
	t.Helper()
	if got, f := wire.Decode(s); !sameRequest(got, want) || f != e {
		t.Errorf("request of %d bytes (%x): kind %d, %d labels, %d cells, error %d; want kind %d, %d labels, %d cells, error %d", len(s), short(s), got.Kind, len(got.Labels), len(got.Cells), f, want.Kind, len(want.Labels), len(want.Cells), e)
	}
}

func checkAnswer(t *testing.T, a api.Response, want string, e api.Errno) {
	t.Helper()
	if got, f := wire.Answer(a); got != want || f != e {
		t.Errorf("kind %d, status %d, %d cells, many %d, room %d: %d bytes (%x), error %d; want %d bytes (%x), error %d", a.Kind, a.Status, len(a.Cells), a.Many, a.Room, len(got), short(got), f, len(want), short(want), e)
	}
}

func checkRead(t *testing.T, s string, want api.Response, e api.Errno) {
	t.Helper()
	if got, f := wire.Read(s); !sameResponse(got, want) || f != e {
		t.Errorf("response of %d bytes (%x): kind %d, status %d, %d cells, many %d, room %d, error %d; want kind %d, status %d, %d cells, many %d, room %d, error %d", len(s), short(s), got.Kind, got.Status, len(got.Cells), got.Many, got.Room, f, want.Kind, want.Status, len(want.Cells), want.Many, want.Room, e)
	}
}

func noRequest(t *testing.T, s string, e api.Errno) {
	t.Helper()
	checkDecode(t, s, api.Request{}, e)
}

func noResponse(t *testing.T, s string, e api.Errno) {
	t.Helper()
	checkRead(t, s, api.Response{}, e)
}
