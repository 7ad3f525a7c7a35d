package server_test

import (
	"math/rand"
	"slices"
	"strconv"
	"sync"
	"testing"

	"columbarium/api"
	"columbarium/bucket"
	"columbarium/server"
	"columbarium/wire"
)

// M2, told over again: by a map of all cells, and chapter 12.

func mayBe(q api.Request) bool {
	labels := slices.Clone(q.Labels)
	slices.Sort(labels)
	if len(slices.Compact(labels)) < len(q.Labels) || len(q.Labels) > 200 {
		return false
	}
	for _, l := range q.Labels {
		if len(l) != 16 {
			return false
		}
	}
	for _, c := range q.Cells {
		if len(c) != 40 {
			return false
		}
	}
	switch q.Kind {
	case 1:
		return len(q.Cells) == len(q.Labels)
	case 2, 3:
		return len(q.Cells) == 0
	}
	return q.Kind == 4 && len(q.Labels)+len(q.Cells) == 0
}

func rightAgain(s api.Server) bool {
	return bucket.Right(s.Store) && 0 <= s.Limit && s.Limit <= 2000 && len(bucket.All(s.Store)) <= s.Limit
}

func cellsOf(s api.Server) map[string]string {
	there := map[string]string{}
	for _, x := range bucket.All(s.Store) {
		there[x[0]] = x[1]
	}
	return there
}

func doAgain(s api.Server, q api.Request) (api.Server, api.Response) {
	if !rightAgain(s) || !mayBe(q) {
		return s, api.Response{}
	}
	there := cellsOf(s)
	a := api.Response{Kind: q.Kind}
	switch q.Kind {
	case 1:
		a.Status = statusAgain(s, there, q)
		for i := 0; i < len(q.Labels) && a.Status == 0; i++ {
			s.Store, _ = bucket.Put(s.Store, q.Labels[i], q.Cells[i])
		}
	case 2:
		for _, l := range q.Labels {
			a.Cells = append(a.Cells, there[l])
		}
	case 3:
		for _, l := range q.Labels {
			s.Store, _, _ = bucket.Del(s.Store, l)
		}
		a.Many = len(there) - s.Store.Many
	case 4:
		a.Many, a.Room = len(there), s.Limit-len(there)
	}
	return s, a
}

func statusAgain(s api.Server, there map[string]string, q api.Request) int {
	full := len(there)
	for i, l := range q.Labels {
		c, is := there[l]
		if is && c != q.Cells[i] {
			return 2
		}
		if !is {
			full++
		}
	}
	if full > s.Limit {
		return 1
	}
	return 0
}

// drawnWords are some of a few labels, now and then one twice.
func drawnWords(r *rand.Rand, most int) string {
	out := ""
	for _, n := range r.Perm(12)[:r.Intn(most+1)] {
		if r.Intn(40) == 0 {
			n = 0
		}
		out += " " + strconv.Itoa(n*(1+n%3*7)) + "d=" + strconv.Itoa(n+r.Intn(12)/11)
	}
	return out
}

func drawnRequest(r *rand.Rand) api.Request {
	q := request([]int{api.Put, api.Put, api.Get, api.Del, api.Stats}[r.Intn(5)], drawnWords(r, 5))
	if q.Kind == api.Stats && r.Intn(4) > 0 {
		q.Labels = nil
	}
	switch r.Intn(60) {
	case 0:
		q.Kind = r.Intn(7) - 1
	case 1:
		q.Cells = append(q.Cells, cell(1))
	case 2:
		q.Labels = append(q.Labels, (label("77z") + "more")[:15+r.Intn(3)])
	}
	return q
}

func TestDrawnHistories(t *testing.T) {
	seen := map[kindAndStatus]int{}
	for seed := range 400 {
		r := rand.New(rand.NewSource(int64(seed)))
		s, _ := server.New(r.Intn(14))
		for range 60 {
			q := drawnRequest(r)
			want, response := doAgain(s, q)
			checkDo(t, s, q, want, response)
			checkRight(t, want, true)
			if t.Failed() {
				t.FailNow()
			}
			s, _ = server.Do(s, q)
			seen[kindAndStatus{response.Kind, response.Status}]++
		}
	}
	for _, x := range []kindAndStatus{{api.Bad, 0}, {api.Put, api.Done}, {api.Put, api.Full}, {api.Put, api.Taken}, {api.Get, 0}, {api.Del, 0}, {api.Stats, 0}} {
		if seen[x] < 500 {
			t.Error("too few are drawn:", x, seen[x])
		}
	}
}

type kindAndStatus struct{ kind, status int }

// M4: what was Done by Put is answered by Get till it is taken away, whatever else is asked in between.
func TestWhatIsPutIsAnswered(t *testing.T) {
	for seed := range 100 {
		r := rand.New(rand.NewSource(int64(seed)))
		s, _ := server.New(r.Intn(20))
		there := map[string]string{}
		for range 60 {
			q := drawnRequest(r)
			then, a := server.Do(s, q)
			switch {
			case a.Kind == api.Put && a.Status == api.Done:
				for i, l := range q.Labels {
					there[l] = q.Cells[i]
				}
			case a.Kind == api.Del:
				for _, l := range q.Labels {
					delete(there, l)
				}
			case !same(then, s):
				t.Fatalf("%s; changed by %s", write(s), writeRequest(q))
			}
			s = then
			checkAnswered(t, s, there)
		}
	}
}

func checkAnswered(t *testing.T, s api.Server, there map[string]string) {
	t.Helper()
	q, want := api.Request{Kind: api.Get}, api.Response{Kind: api.Get}
	for n := range 190 {
		l := label(strconv.Itoa(n) + "d")
		q.Labels, want.Cells = append(q.Labels, l), append(want.Cells, there[l])
	}
	checkDo(t, s, q, s, want)
	checkDo(t, s, stats(), s, room(len(there), s.Limit-len(there)))
	if t.Failed() {
		t.FailNow()
	}
}

func TestPutTwice(t *testing.T) {
	for _, s := range rightServers() {
		for _, q := range rightRequests() {
			if q.Kind != api.Put {
				continue
			}
			first, a := server.Do(s, q)
			want := first
			if a.Status != api.Done {
				want = s
			}
			checkDo(t, s, q, want, a)
			checkDo(t, first, q, want, a)
		}
	}
}

// Each request is answered, whatever bytes it is, by bytes of which chapter 11 tells a response.
func TestEachRequestIsAnswered(t *testing.T) {
	r := rand.New(rand.NewSource(4))
	for _, s := range append(rightServers()[:7], wrongServers()...) {
		for range 50 {
			bytes := make([]byte, r.Intn(60))
			r.Read(bytes)
			if r.Intn(2) == 0 && len(bytes) > 4 {
				copy(bytes, "\x00\x00\x00\x02\x00\x00\x00")
			}
			then, answered := server.Step(s, string(bytes))
			if _, e := wire.Read(answered); e != api.OK || !same(then, s) {
				t.Errorf("%q; asked of %s: %q, error %d", bytes, write(s), answered, e)
			}
		}
	}
}

// As many cells as a limit may say, put and taken away; what was taken away fills buckets, too, but leaves room for cells.
func TestUpAndDown(t *testing.T) {
	s, _ := server.New(2000)
	ask := func(q api.Request, want api.Response) {
		t.Helper()
		then, got := server.Do(s, q)
		if !sameResponse(got, want) {
			t.Fatalf("%s; asked of %s: %s, want %s", writeRequest(q), write(s), writeResponse(got), writeResponse(want))
		}
		s = then
	}
	for from := 0; from < 2000; from += 200 {
		ask(put(words(from, 200)), status(api.Done))
	}
	ask(stats(), room(2000, 0))
	for round := 1; round <= 12; round++ {
		from := 200 * (round - 1)
		ask(put(words(from+1999, 2)), status(api.Full))
		ask(put(words(from+1900, 100)), status(api.Done))
		ask(del(words(from, 200)), many(200))
		ask(del(words(from, 200)), many(0))
		ask(stats(), room(1800, 200))
		ask(put(words(from+2000, 200)), status(api.Done))
		ask(get(words(from+2000, 200)), cells(words(from+2000, 200)))
		checkRight(t, s, true)
	}
	if len(s.Store.Buckets) != 4096 || s.Store.Many != 2000 {
		t.Error(write(s))
	}
	for from := 2400; from < 4400; from += 200 {
		ask(del(words(from, 200)), many(200))
	}
	ask(stats(), room(0, 2000))
}

// R3 and R4

// roomy lays a server's and a request's lists into greater room, whose rest is filled.
func roomy(s api.Server, q api.Request) (api.Server, api.Request) {
	n := len(s.Store.Buckets)
	s.Store.Buckets = append(slices.Clone(s.Store.Buckets), slices.Repeat([]api.Bucket{{State: 9}}, 5)...)[:n]
	q.Labels = append(slices.Clone(q.Labels), "behind", "it")[:len(q.Labels)]
	q.Cells = append(slices.Clone(q.Cells), "behind", "it")[:len(q.Cells)]
	return s, q
}

// whole is a list with its spare room.
func whole[T any](l []T) []T { return slices.Clone(l[:cap(l)]) }

// spoil writes all over a list and its spare room, and grows it.
func spoil[T any](l []T, with T) {
	l = l[:cap(l)]
	for i := range l {
		l[i] = with
	}
	_ = append(l, with)
}

func TestWhatIsHandedInIsNotWrittenInto(t *testing.T) {
	for _, first := range append(rightServers(), wrongServers()...) {
		for _, asked := range append(rightRequests(), wrongRequests()[:20]...) {
			s, q := roomy(first, asked)
			buckets, labels, given := whole(s.Store.Buckets), whole(q.Labels), whole(q.Cells)
			then, a := server.Do(s, q)
			spoil(a.Cells, "spoiled")
			// Where nothing may be done, it may be what was handed in.
			if a.Kind != api.Bad {
				spoil(then.Store.Buckets, api.Bucket{State: 5})
			}
			if !slices.Equal(whole(s.Store.Buckets), buckets) || !slices.Equal(whole(q.Labels), labels) || !slices.Equal(whole(q.Cells), given) {
				t.Fatalf("%s; asked of %s: written into", writeRequest(asked), write(first))
			}
			bytes, e := wire.Encode(q)
			then, _ = server.Step(s, bytes)
			if e == api.OK && a.Kind != api.Bad {
				spoil(then.Store.Buckets, api.Bucket{State: 5})
			}
			if !slices.Equal(whole(s.Store.Buckets), buckets) {
				t.Fatalf("%s; asked by bytes of %s: written into", writeRequest(asked), write(first))
			}
		}
	}
}

// Neither a request's lists are kept, nor is what was answered.
func TestWhatIsHandedInIsNotKept(t *testing.T) {
	first, _ := server.New(9)
	q := put("0a=1 8b=2")
	s, _ := server.Do(first, q)
	spoil(first.Store.Buckets, api.Bucket{State: 5})
	spoil(q.Labels, "spoiled")
	spoil(q.Cells, "spoiled")
	asked := get("0a 8b")
	then, a := server.Do(s, asked)
	spoil(a.Cells, "spoiled")
	spoil(asked.Labels, "spoiled")
	spoil(then.Store.Buckets, api.Bucket{State: 5})
	want := of(9, "0a=1 8b=2")
	checkDo(t, s, get("8b 1c 0a"), want, cells("8b=2 - 0a=1"))
	one, _ := server.New(3)
	spoil(one.Store.Buckets, api.Bucket{State: 5})
	two, _ := server.New(3)
	checkRight(t, two, true)
}

func TestAllAtOnce(t *testing.T) {
	s := of(4, "0a=1 8b=2 1c=3")
	var all sync.WaitGroup
	for range 8 {
		all.Go(func() {
			for range 200 {
				checkDo(t, s, put("5d=4"), of(4, "0a=1 8b=2 1c=3 5d=4"), status(api.Done))
				checkDo(t, s, put("5d=4 6e=5"), s, status(api.Full))
				checkDo(t, s, del("8b 0a 8c"), of(4, "0a=1 8b=2 1c=3 x8b x0a"), many(2))
				checkDo(t, s, get("8b 8c"), s, cells("8b=2 -"))
				checkDo(t, s, stats(), s, room(3, 1))
				bad(t, s, get("8b 8b"))
			}
		})
	}
	all.Wait()
}
