package server_test

import (
	"math/rand"
	"strconv"
	"strings"
	"testing"

	"columbarium/api"
	"columbarium/bucket"
	"columbarium/server"
	"columbarium/wire"
)

// M1

func TestNew(t *testing.T) {
	for _, limit := range rightLimits() {
		s, e := server.New(limit)
		if !same(s, api.Server{Store: api.Store{Buckets: make([]api.Bucket, 8)}, Limit: limit}) || e != api.OK {
			t.Errorf("%d: %s, error %d", limit, write(s), e)
		}
		checkRight(t, s, true)
	}
}

func TestNewOfNoLimit(t *testing.T) {
	for _, limit := range wrongLimits() {
		if s, e := server.New(limit); !same(s, api.Server{}) || e != api.ErrArg {
			t.Errorf("%d: %s, error %d", limit, write(s), e)
		}
	}
}

// The document's example.
func TestExample(t *testing.T) {
	s, _ := server.New(5)
	checkDo(t, s, stats(), s, room(0, 5))
}

func TestRight(t *testing.T) {
	for _, s := range rightServers() {
		checkRight(t, s, true)
	}
	for _, s := range wrongServers() {
		checkRight(t, s, false)
	}
}

// As many cells as the limit says, and not one more; what is gone does not count.
func TestRightByItsLimit(t *testing.T) {
	for _, stored := range []string{"", "1a", "1a x1a", "1a 2b x1a x2b", "0a=1 8b=2 1c=3 7d=4", words(0, 100)} {
		store := storeOf(stored)
		for limit := range 120 {
			checkRight(t, api.Server{Store: store, Limit: limit}, store.Many <= limit)
		}
	}
	store := storeOf(words(0, 2001))
	for _, limit := range []int{0, 1999, 2000, 2001, 4096} {
		checkRight(t, api.Server{Store: store, Limit: limit}, false)
	}
	store, _, _ = bucket.Del(store, label("77w"))
	for limit, want := range map[int]bool{1999: false, 2000: true, 2001: false} {
		checkRight(t, api.Server{Store: store, Limit: limit}, want)
	}
}

// M2

func TestServersThatAreNotRight(t *testing.T) {
	for _, s := range wrongServers() {
		for _, q := range rightRequests() {
			bad(t, s, q)
		}
		bad(t, s, api.Request{})
	}
}

func TestRequestsThatMayNotBe(t *testing.T) {
	for _, s := range []api.Server{of(0, ""), of(2000, ""), of(7, "0a=1 8b=2 1c=3 7d=4"), of(4, "0a=1 8b=2 1c=3 7d=4"), of(3, "0a=1 8b=2 1c=3 7d=4")} {
		for _, q := range wrongRequests() {
			bad(t, s, q)
		}
	}
}

// What is told of a Put: limit and words of a server, words that are put, how it went, and of which words the store is then.
type told struct {
	limit  int
	there  string
	put    string
	status int
	then   string
}

func checkPut(t *testing.T, x told) {
	t.Helper()
	checkDo(t, of(x.limit, x.there), put(x.put), of(x.limit, x.then), status(x.status))
}

func TestPutThatIsDone(t *testing.T) {
	for _, x := range []told{
		{1, "", "0a=1", api.Done, "0a=1"},
		{2000, "", "0a=1", api.Done, "0a=1"},
		// in order: what is put first stands first
		{9, "", "0a 8b 16c", api.Done, "0a 8b 16c"},
		{9, "", "16c 8b 0a", api.Done, "16c 8b 0a"},
		{9, "0a 8b x0a", "16c=1 24d=2", api.Done, "0a 8b x0a 16c=1 24d=2"},
		{9, "0a 8b x0a", "24d=2 16c=1", api.Done, "0a 8b x0a 24d=2 16c=1"},
		// as many as there is room for
		{3, "", "0a 8b 16c", api.Done, "0a 8b 16c"},
		{3, "0a", "8b 16c", api.Done, "0a 8b 16c"},
		{3, "0a 8b", "16c", api.Done, "0a 8b 16c"},
		{3, "0a 8b 1c x1c", "16c", api.Done, "0a 8b 1c x1c 16c"},
		// what is there with that cell needs none
		{3, "0a=1 8b=2", "8b=2 16c=3 0a=1", api.Done, "0a=1 8b=2 16c=3"},
		{3, "0a=1 8b=2 16c=3", "0a=1 8b=2 16c=3", api.Done, "0a=1 8b=2 16c=3"},
		{3, "0a=1 8b=2 16c=3", "8b=2", api.Done, "0a=1 8b=2 16c=3"},
		// nothing is always done
		{0, "", "", api.Done, ""},
		{0, "1a x1a", "", api.Done, "1a x1a"},
		{2, "0a 8b", "", api.Done, "0a 8b"},
		// the same cell under two labels
		{2, "", "0a=7 1b=7", api.Done, "0a=7 1b=7"},
		// what was taken away may come again, with another cell
		{1, "0a=1 x0a", "0a=2", api.Done, "0a=1 x0a 0a=2"},
		// more buckets, and buckets anew
		{9, "0a 1a 2a 3a 4a", "5a 6a 7a", api.Done, "0a 1a 2a 3a 4a 5a 6a 7a"},
		{9, "0a 1a 2a 3a 4a 5a x0a x1a x2a x3a x4a", "6a 0a", api.Done, "0a 1a 2a 3a 4a 5a x0a x1a x2a x3a x4a 6a 0a"},
		{200, "", words(0, 200), api.Done, words(0, 200)},
		{350, words(0, 150), words(0, 200), api.Done, words(0, 200)},
		{350, words(100, 150), words(200, 200), api.Done, words(100, 250) + " " + words(350, 50)},
	} {
		checkPut(t, x)
	}
}

func TestPutThatIsFull(t *testing.T) {
	for _, x := range []told{
		{0, "", "0a", api.Full, ""},
		{0, "1a x1a", "1a", api.Full, "1a x1a"},
		{1, "0a", "8b", api.Full, "0a"},
		{2, "", "0a 8b 16c", api.Full, ""},
		{2, "0a", "8b 16c", api.Full, "0a"},
		{2, "0a=1", "8b 0a=1 16c", api.Full, "0a=1"},
		{2, "0a=1", "8b 16c 0a=1", api.Full, "0a=1"},
		{2, "0a=1 8b=2", "0a=1 8b=2 16c", api.Full, "0a=1 8b=2"},
		{199, "", words(0, 200), api.Full, ""},
		{349, words(100, 150), words(250, 200), api.Full, words(100, 150)},
		{0, "", words(0, 200), api.Full, ""},
	} {
		checkPut(t, x)
	}
}

// Another cell is told of ahead of too little room, wherever it stands.
func TestPutThatIsTaken(t *testing.T) {
	for _, x := range []told{
		{9, "0a=1", "0a=2", api.Taken, "0a=1"},
		{9, "0a=1", "0a", api.Taken, "0a=1"},
		{9, "0a", "0a=1", api.Taken, "0a"},
		{9, "0a=1", "0a=2 1b 2c", api.Taken, "0a=1"},
		{9, "0a=1", "1b 0a=2 2c", api.Taken, "0a=1"},
		{9, "0a=1", "1b 2c 0a=2", api.Taken, "0a=1"},
		{9, "0a=1 8b=2", "0a=1 8b=1", api.Taken, "0a=1 8b=2"},
		{9, "0a=1 8b=2", "0a=2 8b=2", api.Taken, "0a=1 8b=2"},
		{9, "0a=1 8b=2", "0a=2 8b=1", api.Taken, "0a=1 8b=2"},
		{1, "0a=1", "0a=2", api.Taken, "0a=1"},
		{1, "0a=1", "0a=2 1b", api.Taken, "0a=1"},
		{1, "0a=1", "1b 0a=2", api.Taken, "0a=1"},
		{1, "0a=1", "1b 2c 3d 0a=2", api.Taken, "0a=1"},
		{200, words(0, 150), words(50, 199) + " 3w=4", api.Taken, words(0, 150)},
	} {
		checkPut(t, x)
	}
	// Another byte, wherever it stands.
	s := of(1, "0a=1")
	for at := range 40 {
		q := put("0a=1")
		bytes := []byte(q.Cells[0])
		bytes[at] ^= 0x80
		q.Cells[0] = string(bytes)
		checkDo(t, s, q, s, status(api.Taken))
	}
}

func TestGet(t *testing.T) {
	s := of(6, "0a=1 8b=2 16c=3 7d=4 5e=5 x8b")
	for _, x := range []struct{ asked, told string }{
		{"", ""},
		{"0a", "0a=1"},
		{"16c 0a 7d", "16c=3 0a=1 7d=4"},
		{"7d 0a 16c", "7d=4 0a=1 16c=3"},
		{"8b", "-"},
		{"8b 0a 8c 16b", "- 0a=1 - -"},
		{"1z 5e 2z 16c 3z", "- 5e=5 - 16c=3 -"},
		{"1z 2z", "- -"},
	} {
		checkDo(t, s, get(x.asked), s, cells(x.told))
	}
	s = of(250, words(0, 250))
	checkDo(t, s, get(words(50, 200)), s, cells(words(50, 200)))
	checkDo(t, s, get(words(60, 200)), s, cells(words(60, 190)+strings.Repeat(" -", 10)))
}

func TestDel(t *testing.T) {
	for _, x := range []struct {
		there, asked string
		many         int
		then         string
	}{
		{"0a 8b 16c", "", 0, "0a 8b 16c"},
		{"0a 8b 16c", "8b", 1, "0a 8b 16c x8b"},
		{"0a 8b 16c", "16c 0a", 2, "0a 8b 16c x16c x0a"},
		{"0a 8b 16c", "16c 8b 0a", 3, "0a 8b 16c x16c x8b x0a"},
		{"0a 8b 16c", "1z", 0, "0a 8b 16c"},
		{"0a 8b 16c", "1z 8b 2z", 1, "0a 8b 16c x8b"},
		{"0a 8b 16c", "0b 8b 0a 8c", 2, "0a 8b 16c x8b x0a"},
		{"0a 8b 16c x8b", "8b", 0, "0a 8b 16c x8b"},
		{"0a 8b 16c x8b", "8b 16c", 1, "0a 8b 16c x8b x16c"},
		{"", "0a", 0, ""},
		{words(0, 10), words(0, 200), 10, words(0, 10) + " x" + strings.Join(strings.Fields(words(0, 10)), " x")},
		{words(0, 250), words(50, 200), 200, words(0, 250) + " x" + strings.Join(strings.Fields(words(50, 200)), " x")},
	} {
		checkDo(t, of(250, x.there), del(x.asked), of(250, x.then), many(x.many))
	}
}

func TestStats(t *testing.T) {
	for _, x := range []struct {
		limit int
		there string
		many  int
	}{{0, "", 0}, {5, "", 0}, {2000, "", 0}, {1, "0a", 1}, {5, "0a 8b", 2}, {5, "0a 8b x0a", 1}, {1, "0a 8b x0a", 1}, {0, "0a x0a", 0}, {2000, words(0, 300), 300}, {300, words(0, 300), 300}} {
		s := of(x.limit, x.there)
		checkDo(t, s, stats(), s, room(x.many, x.limit-x.many))
	}
}

// M3: requests that may be are asked by bytes wherever checkDo is called; here stand bytes of which none is told.

func TestStepOfWrongBytes(t *testing.T) {
	nothing, one := strings.Repeat("\x00", 4), "\x00\x00\x00\x01"
	wrong := []string{"", "x", "\x00", nothing, one, "\x00\x00\x00\x04", strings.Repeat("\x00", 12), strings.Repeat("\xff", 12),
		"\x00\x00\x00\x05" + nothing + nothing,
		"\x00\x00\x00\x04" + nothing + nothing + "\x00",
		"\x80\x00\x00\x04" + nothing + nothing,
		"\x00\x00\x00\x04" + one + nothing,
		"\x00\x00\x00\x03" + one + "\x00\x00\x00\x0f" + label("0a")[:15] + nothing,
		"\x00\x00\x00\x02\x00\x00\x00\x02" + strings.Repeat("\x00\x00\x00\x10"+label("0a"), 2) + nothing,
		strings.Repeat("x", api.MaxText), strings.Repeat("x", api.MaxText+1), strings.Repeat("\x00", 1<<20),
	}
	for _, q := range rightRequests() {
		bytes, e := wire.Encode(q)
		if e != api.OK {
			t.Fatal(writeRequest(q), e)
		}
		wrong = append(wrong, bytes[:len(bytes)-1], bytes[1:], bytes+"\x00", bytes+bytes, "\x01"+bytes[1:], bytes[:len(bytes)/2])
	}
	for _, s := range append(rightServers(), wrongServers()...) {
		for _, bytes := range wrong {
			checkStep(t, s, bytes, s, api.Response{})
		}
	}
}

func TestStepOfServersThatAreNotRight(t *testing.T) {
	for _, s := range wrongServers() {
		for _, q := range rightRequests() {
			bytes, _ := wire.Encode(q)
			checkStep(t, s, bytes, s, api.Response{})
		}
	}
}

// The response of Kind Bad is twenty bytes 0, and what else is answered stands as chapter 11 says.
func TestStepAsDocumented(t *testing.T) {
	s := of(3, "0a=1")
	if _, got := server.Step(s, "x"); got != strings.Repeat("\x00", 20) {
		t.Errorf("%q", got)
	}
	if _, got := server.Step(s, "\x00\x00\x00\x04"+strings.Repeat("\x00", 8)); got != "\x00\x00\x00\x04"+strings.Repeat("\x00", 8)+"\x00\x00\x00\x01\x00\x00\x00\x02" {
		t.Errorf("%q", got)
	}
}

// Bytes of requests of which some are others: what Decode tells is done, else nothing.
func TestStepOfDrawnBytes(t *testing.T) {
	r := rand.New(rand.NewSource(13))
	servers, requests := rightServers(), rightRequests()
	read := map[bool]int{}
	for range 20000 {
		s := servers[r.Intn(7)]
		bytes, _ := wire.Encode(requests[r.Intn(15)])
		spoiled := []byte(bytes)
		for range r.Intn(3) {
			spoiled[r.Intn(len(spoiled))] ^= 1 << r.Intn(8)
		}
		q, e := wire.Decode(string(spoiled))
		read[e == api.OK]++
		want, response := s, api.Response{}
		if e == api.OK {
			want, response = doAgain(s, q)
		}
		checkStep(t, s, string(spoiled), want, response)
		if t.Failed() {
			t.FailNow()
		}
	}
	if read[true] < 2000 || read[false] < 2000 {
		t.Error("too few are drawn: " + strconv.Itoa(read[true]) + ", " + strconv.Itoa(read[false]))
	}
}
