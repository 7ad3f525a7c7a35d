package server_test

import (
	"encoding/binary"
	"math"
	"slices"
	"strconv"
	"strings"
	"testing"

	"columbarium/api"
	"columbarium/bucket"
	"columbarium/server"
	"columbarium/wire"
)

// In these tests a label is a word: "14b" is the one whose first four bytes are the number 14, with a letter behind it; "14b=3" is that label with the cell of number 3, "14b" alone has the cell of number 0.

func label(word string) string {
	name, _, _ := strings.Cut(word, "=")
	n, err := strconv.ParseUint(name[:len(name)-1], 10, 32)
	if err != nil {
		panic(err)
	}
	return string(binary.BigEndian.AppendUint32(nil, uint32(n))) + name[len(name)-1:] + "eleven more"
}

func cell(n int) string {
	return string(binary.BigEndian.AppendUint32(nil, uint32(n))) + strings.Repeat("c", 36)
}

func cellOf(word string) string {
	_, of, _ := strings.Cut(word, "=")
	n, _ := strconv.Atoi(of)
	return cell(n)
}

// request is one of that kind, of these words; cells has but a Put.
func request(kind int, words string) api.Request {
	q := api.Request{Kind: kind}
	for word := range strings.FieldsSeq(words) {
		q.Labels = append(q.Labels, label(word))
		if kind == api.Put {
			q.Cells = append(q.Cells, cellOf(word))
		}
	}
	return q
}

func put(words string) api.Request { return request(api.Put, words) }

func get(words string) api.Request { return request(api.Get, words) }

func del(words string) api.Request { return request(api.Del, words) }

func stats() api.Request { return api.Request{Kind: api.Stats} }

// status, cells, many and room are responses.
func status(n int) api.Response { return api.Response{Kind: api.Put, Status: n} }

// cells are those of these words; "-" is none.
func cells(words string) api.Response {
	a := api.Response{Kind: api.Get}
	for word := range strings.FieldsSeq(words) {
		if word == "-" {
			a.Cells = append(a.Cells, "")
		} else {
			a.Cells = append(a.Cells, cellOf(word))
		}
	}
	return a
}

func many(n int) api.Response { return api.Response{Kind: api.Del, Many: n} }

func room(many, room int) api.Response {
	return api.Response{Kind: api.Stats, Many: many, Room: room}
}

// words are so many, each another label, from that number on; each has that number's cell.
func words(from, many int) string {
	var out []string
	for n := range many {
		number := strconv.Itoa(from + n)
		out = append(out, number+"w="+number)
	}
	return strings.Join(out, " ")
}

// storeOf is what chapter 12 makes of these words, put into a new store one behind the other, of which those behind "x" are taken away again.
func storeOf(words string) api.Store {
	s, _ := bucket.New(8)
	for word := range strings.FieldsSeq(words) {
		e := api.OK
		if gone, is := strings.CutPrefix(word, "x"); is {
			s, _, e = bucket.Del(s, label(gone))
		} else {
			s, e = bucket.Put(s, label(word), cellOf(word))
		}
		if e != api.OK {
			panic(e)
		}
	}
	return s
}

func of(limit int, words string) api.Server {
	return api.Server{Store: storeOf(words), Limit: limit}
}

func same(a, b api.Server) bool {
	return a.Limit == b.Limit && a.Store.Many == b.Store.Many && a.Store.Gone == b.Store.Gone && slices.Equal(a.Store.Buckets, b.Store.Buckets)
}

func sameResponse(a, b api.Response) bool {
	return a.Kind == b.Kind && a.Status == b.Status && a.Many == b.Many && a.Room == b.Room && slices.Equal(a.Cells, b.Cells)
}

// Servers, requests and responses as what can be read of a failed test.

func short(all string) string {
	if len(all) > 300 {
		return all[:300] + ".."
	}
	return all
}

func write(s api.Server) string {
	var out []string
	for _, b := range s.Store.Buckets[:min(len(s.Store.Buckets), 20)] {
		out = append(out, strconv.Itoa(b.State)+strconv.Quote(b.Label[:min(len(b.Label), 5)])+strconv.Quote(b.Cell[:min(len(b.Cell), 4)]))
	}
	return "limit " + strconv.Itoa(s.Limit) + ", many " + strconv.Itoa(s.Store.Many) + ", gone " + strconv.Itoa(s.Store.Gone) + ", " + strconv.Itoa(len(s.Store.Buckets)) + " buckets: " + short(strings.Join(out, " "))
}

func writeRequest(q api.Request) string {
	return "kind " + strconv.Itoa(q.Kind) + ", " + strconv.Itoa(len(q.Labels)) + " labels, " + strconv.Itoa(len(q.Cells)) + " cells: " + short(strconv.Quote(strings.Join(q.Labels, " ")))
}

func writeResponse(a api.Response) string {
	return "kind " + strconv.Itoa(a.Kind) + ", status " + strconv.Itoa(a.Status) + ", many " + strconv.Itoa(a.Many) + ", room " + strconv.Itoa(a.Room) + ", " + strconv.Itoa(len(a.Cells)) + " cells: " + short(strconv.Quote(strings.Join(a.Cells, " ")))
}

func checkRight(t *testing.T, s api.Server, want bool) {
	t.Helper()
	if got := server.Right(s); got != want {
		t.Errorf("%s: right %v, want %v", write(s), got, want)
	}
}

// checkDo asks, and asks by bytes, where the request has any: it comes to the same (M3).
func checkDo(t *testing.T, s api.Server, q api.Request, want api.Server, response api.Response) {
	t.Helper()
	then, got := server.Do(s, q)
	if !same(then, want) || !sameResponse(got, response) {
		t.Errorf("%s; asked of %s:\n%s; %s;\nwant %s; %s", writeRequest(q), write(s), write(then), writeResponse(got), write(want), writeResponse(response))
	}
	if bytes, e := wire.Encode(q); e == api.OK {
		checkStep(t, s, bytes, want, response)
	}
}

func checkStep(t *testing.T, s api.Server, bytes string, want api.Server, response api.Response) {
	t.Helper()
	answered, e := wire.Answer(response)
	if e != api.OK {
		t.Fatal(writeResponse(response), e)
	}
	if then, got := server.Step(s, bytes); !same(then, want) || got != answered {
		t.Errorf("%s; asked of %s:\n%s; %s;\nwant %s; %q", short(strconv.Quote(bytes)), write(s), write(then), short(strconv.Quote(got)), write(want), answered)
	}
}

// bad asks what is not done.
func bad(t *testing.T, s api.Server, q api.Request) {
	t.Helper()
	checkDo(t, s, q, s, api.Response{})
}

func rightLimits() []int {
	var out []int
	for n := range 2001 {
		out = append(out, n)
	}
	return out
}

func wrongLimits() []int {
	return []int{-1, -2, -2000, 2001, 2002, 4096, 65536, 1 << 31, 1 << 32, 1<<32 + 5, -1 << 32, 5 - 1<<32, 1 << 62, math.MaxInt, math.MinInt, math.MinInt + 5}
}

func rightServers() []api.Server {
	return []api.Server{
		of(0, ""),
		of(2000, ""),
		of(0, "1a x1a"),
		of(1, "1a"),
		of(7, "0a=1 8b=2 1c=3 7d=4"),
		of(4, "0a=1 8b=2 1c=3 7d=4"),
		of(9, "0a 8b x0a 16c=3 x8b 0e=4"),
		of(40, words(0, 40)),
		of(41, words(100, 40)),
		of(300, words(0, 290)),
	}
}

// wrongServers are wrong for one reason each.
func wrongServers() []api.Server {
	var out []api.Server
	for _, limit := range wrongLimits() {
		out = append(out, of(limit, ""), of(limit, "1a"), of(limit, "0a=1 8b=2 1c=3 7d=4"))
	}
	for _, limit := range []int{0, 1, 2, 3} {
		out = append(out, of(limit, "0a=1 8b=2 1c=3 7d=4"), of(limit, "0a=1 8b=2 1c=3 7d=4 9e x9e"))
	}
	out = append(out, api.Server{}, api.Server{Limit: 5}, of(39, words(0, 40)), of(0, words(0, 40)))
	for _, change := range []func(s *api.Store){
		func(s *api.Store) { *s = api.Store{} },
		func(s *api.Store) { s.Many++ },
		func(s *api.Store) { s.Many = 0 },
		func(s *api.Store) { s.Many = -1 },
		func(s *api.Store) { s.Many = math.MinInt },
		func(s *api.Store) { s.Gone++ },
		func(s *api.Store) { s.Gone-- },
		func(s *api.Store) { s.Buckets = s.Buckets[:7] },
		func(s *api.Store) { s.Buckets = append(s.Buckets, api.Bucket{}) },
		func(s *api.Store) { s.Buckets[0].Label = s.Buckets[0].Label[1:] },
		func(s *api.Store) { s.Buckets[0].Cell += "c" },
		func(s *api.Store) { s.Buckets[0].State = 3 },
		func(s *api.Store) { s.Buckets[3].Cell = cell(1) },
		func(s *api.Store) { s.Buckets[0], s.Buckets[1] = s.Buckets[1], s.Buckets[0] },
		func(s *api.Store) { s.Buckets[1] = s.Buckets[0] },
	} {
		s := of(7, "0a=1 1b=2 7d=4 9e=5 x9e")
		change(&s.Store)
		out = append(out, s)
	}
	return out
}

func rightRequests() []api.Request {
	return []api.Request{
		stats(), {Kind: api.Stats, Labels: []string{}, Cells: []string{}},
		put(""), get(""), del(""),
		put("0a=1"), get("0a"), del("0a"),
		put("8b=2 0a=1"), get("8b 0a"), del("8b 0a"),
		put("0a=1 5z=9"), put("5z=9 0a=2"), get("5z 0a 1c 6y"), del("5z 0a 6y 1c"),
		put(words(0, 200)), get(words(30, 200)), del(words(30, 200)),
	}
}

func with(q api.Request, change func(q *api.Request)) api.Request {
	change(&q)
	return q
}

// wrongRequests may not be, for one reason each.
func wrongRequests() []api.Request {
	var out []api.Request
	for _, kind := range []int{0, 5, 6, -1, -4, 256, 257, 1 << 31, 1 << 32, 1<<32 + 1, 1<<32 + 2, math.MaxInt, math.MinInt} {
		out = append(out, api.Request{Kind: kind})
		for _, q := range rightRequests() {
			q.Kind = kind
			out = append(out, q)
		}
	}
	for _, kind := range []int{api.Put, api.Get, api.Del} {
		for _, wrong := range []string{"", "a", label("0a")[:15], label("0a") + "b", cell(0), strings.Repeat("ä", 16)} {
			for at := range 3 {
				out = append(out, with(request(kind, "0a 8b 5z"), func(q *api.Request) { q.Labels[at] = wrong }))
			}
		}
		out = append(out, request(kind, "0a 0a"), request(kind, "0a=1 8b 0a=1"), request(kind, "5z 5z"), request(kind, words(0, 201)), request(kind, words(0, 1000)))
	}
	for _, wrong := range []string{"", "c", cell(1)[:39], cell(1) + "c", label("0a"), strings.Repeat("ä", 40)} {
		for at := range 3 {
			out = append(out, with(put("0a=1 8b=2 5z"), func(q *api.Request) { q.Cells[at] = wrong }))
		}
	}
	for _, cells := range [][]string{{cell(1)}, {cell(1), cell(2), cell(3)}, nil} {
		out = append(out, with(put("0a=1 8b=2"), func(q *api.Request) { q.Cells = cells }))
	}
	for _, cells := range [][]string{{cell(1)}, {""}, {cell(1), cell(2)}} {
		for _, q := range []api.Request{put(""), get("0a"), get("0a 8b"), get(""), del("0a"), del("0a 8b"), del(""), stats()} {
			q.Cells = cells
			out = append(out, q)
		}
	}
	return append(out, request(api.Stats, "0a"), request(api.Stats, words(0, 200)))
}
