package wire_test

import (
	"encoding/binary"
	"math/rand"
	"slices"
	"sync"
	"testing"
	"unsafe"

	"columbarium/api"
	"columbarium/wire"
)

// K3: what was written is read, and what was read is written as it stood there.

func TestDecodeUndoesEncode(t *testing.T) {
	for _, q := range rightRequests() {
		bytes, e := wire.Encode(q)
		checkDecode(t, bytes, q, e)
	}
}

func TestReadUndoesAnswer(t *testing.T) {
	for _, a := range rightResponses() {
		bytes, e := wire.Answer(a)
		checkRead(t, bytes, a, e)
	}
}

// The promises of what is read, told over again: numbers and lists to be taken, and the first error.

func takeNumber(s string) (int, string, api.Errno) {
	if len(s) < 4 {
		return 0, s, api.ErrShort
	}
	if n := binary.BigEndian.Uint32([]byte(s[:4])); n < 1<<31 {
		return int(n), s[4:], api.OK
	}
	return 0, s, api.ErrForm
}

func takeList(s string) ([]string, string, api.Errno) {
	many, s, e := takeNumber(s)
	if e == api.OK && many > 1000 {
		e = api.ErrForm
	}
	var l []string
	for i := 0; i < many && e == api.OK; i++ {
		var n int
		n, s, e = takeNumber(s)
		if e == api.OK && n > len(s) {
			e = api.ErrShort
		}
		if e == api.OK {
			l, s = append(l, s[:n]), s[n:]
		}
	}
	return l, s, e
}

// take takes what the letters tell: n is a number, l a list.
func take(s, letters string) ([]int, [][]string, api.Errno) {
	var numbers []int
	var lists [][]string
	if len(s) > 65536 {
		return nil, nil, api.ErrLong
	}
	for _, letter := range letters {
		var e api.Errno
		if letter == 'n' {
			var n int
			n, s, e = takeNumber(s)
			numbers = append(numbers, n)
		} else {
			var l []string
			l, s, e = takeList(s)
			lists = append(lists, l)
		}
		if e != api.OK {
			return nil, nil, e
		}
	}
	if s != "" {
		return nil, nil, api.ErrForm
	}
	return numbers, lists, api.OK
}

// ofSizes tells whether each text has one of these sizes.
func ofSizes(l []string, sizes ...int) bool {
	for _, s := range l {
		if !slices.Contains(sizes, len(s)) {
			return false
		}
	}
	return true
}

func mayBeRequest(q api.Request) bool {
	for i, a := range q.Labels {
		for _, b := range q.Labels[:i] {
			if a == b {
				return false
			}
		}
	}
	if q.Kind < 1 || q.Kind > 4 || !ofSizes(q.Labels, 16) || !ofSizes(q.Cells, 40) || len(q.Labels) > 200 {
		return false
	}
	if q.Kind == 4 && len(q.Labels) > 0 {
		return false
	}
	if q.Kind == 1 {
		return len(q.Cells) == len(q.Labels)
	}
	return len(q.Cells) == 0
}

func mayBeResponse(a api.Response) bool {
	if a.Kind < 0 || a.Kind > 4 || a.Status < 0 || a.Status > 2 || !ofSizes(a.Cells, 0, 40) || len(a.Cells) > 200 {
		return false
	}
	if a.Many < 0 || a.Many >= 1<<31 || a.Room < 0 || a.Room >= 1<<31 {
		return false
	}
	if a.Kind != 1 && a.Status != 0 || a.Kind != 2 && len(a.Cells) > 0 || a.Kind != 4 && a.Room != 0 {
		return false
	}
	return a.Kind >= 3 || a.Many == 0
}

func decodeAgain(s string) (api.Request, api.Errno) {
	n, l, e := take(s, "nll")
	if e != api.OK {
		return api.Request{}, e
	}
	if q := (api.Request{Kind: n[0], Labels: l[0], Cells: l[1]}); mayBeRequest(q) {
		return q, api.OK
	}
	return api.Request{}, api.ErrForm
}

func readAgain(s string) (api.Response, api.Errno) {
	n, l, e := take(s, "nnlnn")
	if e != api.OK {
		return api.Response{}, e
	}
	if a := (api.Response{Kind: n[0], Status: n[1], Cells: l[0], Many: n[2], Room: n[3]}); mayBeResponse(a) {
		return a, api.OK
	}
	return api.Response{}, api.ErrForm
}

// some are up to three texts, mostly of that size, some of them the same.
func some(r *rand.Rand, size int) []string {
	var out []string
	for range r.Intn(4) {
		n := size
		if r.Intn(25) == 0 {
			n = max(0, size+r.Intn(3)-1)
		}
		text := make([]byte, n)
		if n > 0 {
			text[r.Intn(n)] = byte(r.Intn(4))
		}
		out = append(out, string(text))
	}
	return out
}

func drawnRequest(r *rand.Rand) api.Request {
	q := api.Request{Kind: r.Intn(6)}
	if q.Kind != api.Stats || r.Intn(4) == 0 {
		q.Labels = some(r, 16)
	}
	switch {
	case r.Intn(8) == 0:
		q.Cells = some(r, 40)
	case q.Kind == api.Put:
		for range q.Labels {
			q.Cells = append(q.Cells, sample(40))
		}
	}
	return q
}

func drawnResponse(r *rand.Rand) api.Response {
	a := api.Response{Kind: r.Intn(6)}
	if a.Kind == api.Put || r.Intn(8) == 0 {
		a.Status = r.Intn(4)
	}
	if a.Kind == api.Get || r.Intn(8) == 0 {
		a.Cells = some(r, 40*r.Intn(2))
	}
	if a.Kind >= api.Del || r.Intn(8) == 0 {
		a.Many = r.Intn(1<<31 + 1<<27)
	}
	if a.Kind == api.Stats || r.Intn(8) == 0 {
		a.Room = r.Intn(1<<31 + 1<<27)
	}
	return a
}

// spoiled are some bytes of which mostly none, sometimes one is another one, is missing or too many, and sometimes the end is.
func spoiled(r *rand.Rand, s string) string {
	b := []byte(s)
	at := r.Intn(len(b))
	switch r.Intn(9) {
	case 0:
		b[at] = byte(r.Intn(256))
	case 1:
		b[min(at/4*4+3, len(b)-1)] += byte(1 + r.Intn(3))
	case 2:
		b = slices.Delete(b, at, at+1)
	case 3:
		b = slices.Insert(b, at, byte(r.Intn(2)))
	case 4:
		b = b[:at]
	}
	return string(b)
}

// way is all that a thing's promises are tested by, told over again.
type way[T any] struct {
	draw  func(*rand.Rand) T
	mayBe func(T) bool
	bytes func(T) string
	again func(string) (T, api.Errno)
	write func(t *testing.T, one T, want string, e api.Errno)
	read  func(t *testing.T, s string, want T, e api.Errno)
}

func drawMany[T any](t *testing.T, seed int64, w way[T]) {
	t.Helper()
	r := rand.New(rand.NewSource(seed))
	seen := map[api.Errno]int{}
	for range 30000 {
		one := w.draw(r)
		if w.mayBe(one) {
			w.write(t, one, w.bytes(one), api.OK)
		} else {
			w.write(t, one, "", api.ErrArg)
		}
		bytes := spoiled(r, w.bytes(one))
		want, e := w.again(bytes)
		w.read(t, bytes, want, e)
		if e == api.OK {
			w.write(t, want, bytes, api.OK)
		}
		seen[e]++
		if t.Failed() {
			t.Fatalf("%#v", one)
		}
	}
	for _, e := range []api.Errno{api.OK, api.ErrShort, api.ErrForm} {
		if seen[e] < 2000 {
			t.Error("too few are drawn:", seen)
		}
	}
}

func TestDrawnRequests(t *testing.T) {
	drawMany(t, 11, way[api.Request]{drawnRequest, mayBeRequest, requestBytes, decodeAgain, checkEncode, checkDecode})
}

func TestDrawnResponses(t *testing.T) {
	drawMany(t, 12, way[api.Response]{drawnResponse, mayBeResponse, responseBytes, readAgain, checkAnswer, checkRead})
}

// Each byte of a request and of a response, by each other value: it is another one that is told, or none.
func TestEachByte(t *testing.T) {
	request := requestBytes(api.Request{Kind: api.Put, Labels: labels(2), Cells: cells(2)})
	response := responseBytes(api.Response{Kind: api.Stats, Many: 258, Room: 1<<31 - 1})
	for value := range 256 {
		for at := range request {
			bytes := request[:at] + string([]byte{byte(value)}) + request[at+1:]
			want, e := decodeAgain(bytes)
			checkDecode(t, bytes, want, e)
		}
		for at := range response {
			bytes := response[:at] + string([]byte{byte(value)}) + response[at+1:]
			want, e := readAgain(bytes)
			checkRead(t, bytes, want, e)
		}
	}
}

// R3 and R4

func TestWhatIsHandedInIsNotWrittenInto(t *testing.T) {
	labelRoom, cellRoom := labels(5), cells(5)
	for n := range 5 {
		q := api.Request{Kind: api.Put, Labels: labelRoom[:n], Cells: cellRoom[:n]}
		a := api.Response{Kind: api.Get, Cells: cellRoom[:n]}
		checkEncode(t, q, requestBytes(q), api.OK)
		checkAnswer(t, a, responseBytes(a), api.OK)
		q.Kind, a.Kind = api.Stats, api.Del
		if n > 0 {
			checkEncode(t, q, "", api.ErrArg)
			checkAnswer(t, a, "", api.ErrArg)
		}
	}
	if !slices.Equal(labelRoom, labels(5)) || !slices.Equal(cellRoom, cells(5)) {
		t.Error("a list is another one")
	}
	// Labels keep their order, whatever was looked for among them.
	turned := labels(5)
	slices.Reverse(turned)
	before := slices.Clone(turned)
	checkEncode(t, api.Request{Kind: api.Del, Labels: turned}, requestBytes(api.Request{Kind: api.Del, Labels: before}), api.OK)
	if !slices.Equal(turned, before) {
		t.Error("labels stand in another order")
	}
}

// writeInto writes into a list, its spare room too, and grows it.
func writeInto(l []string) {
	room := l[:cap(l)]
	for i := range room {
		room[i] = "other"
	}
	_ = append(l, "more")
}

func TestListsAreTheirOwners(t *testing.T) {
	q := api.Request{Kind: api.Put, Labels: labels(3), Cells: cells(3)}
	for range 2 {
		first, _ := wire.Decode(requestBytes(q))
		writeInto(first.Labels)
		if !slices.Equal(first.Cells, q.Cells) {
			t.Error("two lists of one answer share their memory")
		}
		writeInto(first.Cells)
		checkDecode(t, requestBytes(q), q, api.OK)
	}
	a := api.Response{Kind: api.Get, Cells: cells(3)}
	first, _ := wire.Read(responseBytes(a))
	second, _ := wire.Read(responseBytes(a))
	writeInto(second.Cells)
	if !sameResponse(first, a) {
		t.Error("two answers share their memory")
	}
}

// within tells whether a text's bytes lie where another's do.
func within(s, all string) bool {
	at, from := uintptr(unsafe.Pointer(unsafe.StringData(s))), uintptr(unsafe.Pointer(unsafe.StringData(all)))
	return len(s) > 0 && at >= from && at < from+uintptr(len(all))
}

func TestWhatComesOutIsNewMemory(t *testing.T) {
	request := requestBytes(api.Request{Kind: api.Put, Labels: labels(2), Cells: cells(2)})
	response := responseBytes(api.Response{Kind: api.Get, Cells: cells(2)})
	q, _ := wire.Decode(request)
	a, _ := wire.Read(response)
	for _, s := range slices.Concat(q.Labels, q.Cells) {
		if within(s, request) {
			t.Errorf("%x lies in the request", s)
		}
	}
	for _, s := range a.Cells {
		if within(s, response) {
			t.Errorf("%x lies in the response", s)
		}
	}
}

func TestAllAtOnce(t *testing.T) {
	q := api.Request{Kind: api.Put, Labels: labels(200), Cells: cells(200)}
	a := api.Response{Kind: api.Get, Cells: cells(200)}
	request, response := requestBytes(q), responseBytes(a)
	var all sync.WaitGroup
	for range 8 {
		all.Go(func() {
			for range 20 {
				checkEncode(t, q, request, api.OK)
				checkDecode(t, request, q, api.OK)
				checkAnswer(t, a, response, api.OK)
				checkRead(t, response, a, api.OK)
			}
		})
	}
	all.Wait()
}
