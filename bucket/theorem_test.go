package bucket_test

import (
	"encoding/binary"
	"maps"
	"math/rand"
	"slices"
	"strconv"
	"sync"
	"testing"

	"columbarium/api"
	"columbarium/bucket"
)

// The promises told over again, as the document has them.

// wayAgain are the places of a label's way.
func wayAgain(s api.Store, label string) []int {
	size := len(s.Buckets)
	home := int(binary.BigEndian.Uint32([]byte(label))) % size
	var out []int
	for i := 0; i < size && s.Buckets[(home+i)%size].State != api.Free; i++ {
		out = append(out, (home+i)%size)
	}
	return out
}

func bucketMayBe(b api.Bucket) bool {
	if b.State == api.Used {
		return len(b.Label) == 16 && len(b.Cell) == 40
	}
	return (b.State == api.Free || b.State == api.Gone) && b.Label == "" && b.Cell == ""
}

func mayBe(s api.Store) bool {
	if !slices.Contains(sizes(), len(s.Buckets)) || !same(s, counted(s)) {
		return false
	}
	for _, b := range s.Buckets {
		if !bucketMayBe(b) {
			return false
		}
	}
	for at, b := range s.Buckets {
		if b.State != api.Used {
			continue
		}
		if !slices.Contains(wayAgain(s, b.Label), at) {
			return false
		}
		for _, other := range s.Buckets[:at] {
			if other.Label == b.Label {
				return false
			}
		}
	}
	return 4*(s.Many+s.Gone) <= 3*len(s.Buckets)
}

// placeOf is where a label stands; -1: nowhere.
func placeOf(s api.Store, label string) int {
	return slices.IndexFunc(s.Buckets, func(b api.Bucket) bool { return b.State == api.Used && b.Label == label })
}

// into writes a label that is not there into a store that has room.
func into(s api.Store, label, cell string) api.Store {
	way := wayAgain(s, label)
	place := int(binary.BigEndian.Uint32([]byte(label))) % len(s.Buckets)
	if len(way) > 0 {
		place = (way[len(way)-1] + 1) % len(s.Buckets)
	}
	for _, at := range slices.Backward(way) {
		if s.Buckets[at].State == api.Gone {
			place = at
		}
	}
	s.Buckets[place] = api.Bucket{State: api.Used, Label: label, Cell: cell}
	return counted(s)
}

func putAgain(s api.Store, label, cell string) (api.Store, api.Errno) {
	if !mayBe(s) || len(label) != 16 || len(cell) != 40 {
		return s, api.ErrArg
	}
	then := copyOf(s)
	if at := placeOf(s, label); at >= 0 {
		then.Buckets[at].Cell = cell
		return then, api.OK
	}
	size := len(s.Buckets)
	if 4*(s.Many+s.Gone+1) > 3*size {
		if 2*s.Many >= size {
			size = 2 * size
		}
		if size > 4096 {
			return s, api.ErrFull
		}
		then = api.Store{Buckets: make([]api.Bucket, size)}
		for _, b := range s.Buckets {
			if b.State == api.Used {
				then = into(then, b.Label, b.Cell)
			}
		}
	}
	return into(then, label, cell), api.OK
}

func delAgain(s api.Store, label string) (api.Store, bool, api.Errno) {
	if !mayBe(s) {
		return s, false, api.ErrArg
	}
	at := placeOf(s, label)
	if at < 0 {
		return s, false, api.OK
	}
	then := copyOf(s)
	then.Buckets[at] = api.Bucket{State: api.Gone}
	return counted(then), true, api.OK
}

func getAgain(s api.Store, label string) (string, bool) {
	if at := placeOf(s, label); mayBe(s) && at >= 0 {
		return s.Buckets[at].Cell, true
	}
	return "", false
}

func allAgain(s api.Store) [][2]string {
	there := map[string]string{}
	for _, b := range s.Buckets {
		if b.State == api.Used && mayBe(s) {
			there[b.Label] = b.Cell
		}
	}
	return sorted(there)
}

func sorted(there map[string]string) [][2]string {
	var out [][2]string
	for _, l := range slices.Sorted(maps.Keys(there)) {
		out = append(out, [2]string{l, there[l]})
	}
	return out
}

// drawnLabel is one of a few, so that the same come again, and many have one home.
func drawnLabel(r *rand.Rand) string {
	n := r.Intn(1 + r.Intn(12))
	if r.Intn(4) == 0 {
		n += 8 * r.Intn(1<<29-2)
	}
	return label(strconv.Itoa(n) + string([]byte{'a' + byte(r.Intn(2))}))
}

// drawnStore is one to which something was done; spoiled ones mostly may not be.
func drawnStore(r *rand.Rand) api.Store {
	s := of(repeated(".", 8<<r.Intn(2)))
	for range r.Intn(20) {
		if r.Intn(3) > 0 {
			s, _ = putAgain(s, drawnLabel(r), cell(r.Intn(256)))
		} else if at := r.Intn(len(s.Buckets)); s.Buckets[at].State == api.Used {
			s, _, _ = delAgain(s, s.Buckets[at].Label)
		}
	}
	return s
}

func spoiled(r *rand.Rand, s api.Store) api.Store {
	s = copyOf(s)
	size := len(s.Buckets)
	b, other := &s.Buckets[r.Intn(size)], &s.Buckets[r.Intn(size)]
	switch r.Intn(16) {
	case 0:
		*b, *other = *other, *b
	case 1:
		*b = *other
		return counted(s)
	case 2:
		*b = api.Bucket{}
		return counted(s)
	case 3:
		*b = api.Bucket{State: api.Gone}
		return counted(s)
	case 4:
		b.State = r.Intn(5) - 1
		return counted(s)
	case 5:
		b.Label = drawnLabel(r)[r.Intn(2):]
	case 6:
		b.Cell = cell(1)[r.Intn(2):]
	case 7:
		s.Many += r.Intn(3) - 1
	case 8:
		s.Gone += r.Intn(3) - 1
	}
	return s
}

// askedOf is a label that is there, one that mostly is not, or none.
func askedOf(r *rand.Rand, s api.Store) string {
	switch r.Intn(8) {
	case 0:
		return drawnLabel(r)[r.Intn(12):]
	case 1, 2, 3:
		return s.Buckets[r.Intn(len(s.Buckets))].Label
	}
	return drawnLabel(r)
}

func TestDrawnStores(t *testing.T) {
	r := rand.New(rand.NewSource(12))
	seen := map[api.Errno]int{}
	for range 40000 {
		s := spoiled(r, drawnStore(r))
		checkRight(t, s, mayBe(s))
		for range 3 {
			l, c := askedOf(r, s), cell(r.Intn(256))[r.Intn(11)/10:]
			want, e := putAgain(s, l, c)
			checkPut(t, s, l, c, want, e)
			seen[e]++
			got, has := getAgain(s, l)
			checkGet(t, s, l, got, has)
			left, was, f := delAgain(s, l)
			checkDel(t, s, l, left, was, f)
		}
		checkAll(t, s, allAgain(s))
		if t.Failed() {
			t.Fatalf("%s", short(s))
		}
	}
	if seen[api.OK] < 20000 || seen[api.ErrArg] < 20000 {
		t.Error("too few are drawn:", seen)
	}
}

// All stores of eight buckets with these five in them.
func TestEachStore(t *testing.T) {
	five := []api.Bucket{read("."), read("x"), read("0a"), read("15a"), read("3a")}
	s := of(repeated(".", 8))
	right := 0
	for n := range 5 * 5 * 5 * 5 * 5 * 5 * 5 * 5 {
		for at := range s.Buckets {
			s.Buckets[at] = five[n%5]
			n /= 5
		}
		s = counted(s)
		want := mayBe(s)
		if got := bucket.Right(s); got != want {
			t.Fatalf("%s: right %v, want %v", short(s), got, want)
		}
		if want {
			right++
		}
	}
	if right < 500 {
		t.Error("too few are right:", right)
	}
}

// L7

// history does so much with a store that began empty, and holds it against what was put last and not taken away since.
type history struct {
	s     api.Store
	there map[string]string
	full  int
}

func (h *history) put(t *testing.T, label, cell string) {
	t.Helper()
	then, e := bucket.Put(h.s, label, cell)
	switch {
	case e == api.ErrFull && same(then, h.s) && len(h.s.Buckets) == 4096:
		h.full++
		return
	case e != api.OK:
		t.Fatalf("put %.20q into %s: error %d", label, short(h.s), e)
	}
	h.s = then
	h.there[label] = cell
}

func (h *history) del(t *testing.T, label string) {
	t.Helper()
	then, was, e := bucket.Del(h.s, label)
	if _, is := h.there[label]; was != is || e != api.OK {
		t.Fatalf("del %.20q from %s: %v, error %d", label, short(h.s), was, e)
	}
	h.s = then
	delete(h.there, label)
}

func (h *history) check(t *testing.T, labels []string) {
	t.Helper()
	checkRight(t, h.s, true)
	for _, l := range labels {
		want, is := h.there[l]
		checkGet(t, h.s, l, want, is)
		if way := wayAgain(h.s, l); 4*len(way) > 3*len(h.s.Buckets) {
			t.Errorf("a way of %d in %s", len(way), short(h.s))
		}
	}
	checkAll(t, h.s, sorted(h.there))
	if t.Failed() {
		t.FailNow()
	}
}

func begun() *history {
	s, _ := bucket.New(8)
	return &history{s: s, there: map[string]string{}}
}

func TestDrawnHistories(t *testing.T) {
	for seed := range 60 {
		r := rand.New(rand.NewSource(int64(seed)))
		var pool []string
		for n := range 4 + r.Intn(60) {
			number := n * r.Intn(3)
			if seed%3 == 0 {
				number = 7 // one home for all
			}
			pool = append(pool, label(strconv.Itoa(number)+string([]byte{byte(n + 'A')})))
		}
		h := begun()
		for range 300 {
			l := pool[r.Intn(len(pool))]
			if r.Intn(2+seed%2) > 0 {
				h.put(t, l, cell(r.Intn(256)))
			} else {
				h.del(t, l)
			}
			h.check(t, pool)
		}
	}
}

// Up to as many cells as a store may have, and down to none.
func TestUpAndDown(t *testing.T) {
	pool := labels(3100)
	var some []string
	for i := 0; i < len(pool); i += 31 {
		some = append(some, pool[i])
	}
	h := begun()
	for i, l := range pool {
		h.put(t, l, cell(i))
		if i%500 == 0 {
			h.check(t, some)
		}
	}
	if len(h.there) != 3072 || h.full != 28 {
		t.Error(len(h.there), h.full)
	}
	h.check(t, pool)
	for i, l := range pool {
		h.del(t, l)
		if i%500 == 0 {
			h.check(t, some)
		}
	}
	h.check(t, some)
	if h.s.Many != 0 || h.s.Gone != 3072 || len(h.s.Buckets) != 4096 {
		t.Error(short(h.s))
	}
	h.put(t, pool[9], cell(9))
	h.check(t, some)
	if h.s.Many != 1 || h.s.Gone != 0 || len(h.s.Buckets) != 4096 {
		t.Error(short(h.s))
	}
}

// One home for all, as many as may be: each call ends soon.
func TestOneHomeForAll(t *testing.T) {
	h := begun()
	var pool []string
	for i := range 3072 {
		l := []byte(label("4095a"))
		binary.BigEndian.PutUint32(l[8:], uint32(i))
		pool = append(pool, string(l))
		h.put(t, pool[i], cell(i))
	}
	checkRight(t, h.s, true)
	checkGet(t, h.s, pool[3071], cell(3071), true)
	if len(h.there) != 3072 || len(wayAgain(h.s, pool[0])) != 3072 {
		t.Error(short(h.s))
	}
}

// R3 and R4

// with lays a store's buckets into greater room, whose rest is filled.
func with(s api.Store) (api.Store, []api.Bucket) {
	room := append(slices.Clone(s.Buckets), slices.Repeat([]api.Bucket{read("1z=9")}, 5)...)
	s.Buckets = room[:len(s.Buckets)]
	return s, room
}

func TestWhatIsHandedInIsNotWrittenInto(t *testing.T) {
	for _, stored := range append(rightStores(), wrongStores()...) {
		s, room := with(stored)
		before := slices.Clone(room)
		asked := []string{label("0a"), label("7a"), label("3y"), "", "a"}
		for _, b := range s.Buckets[:min(9, len(s.Buckets))] {
			asked = append(asked, b.Label)
		}
		for _, l := range asked {
			// Beside an error it may be what was handed in.
			if put, e := bucket.Put(s, l, cell(77)); e == api.OK {
				writeInto(put)
			}
			if left, _, e := bucket.Del(s, l); e == api.OK {
				writeInto(left)
			}
			bucket.Get(s, l)
		}
		bucket.All(s)
		if !slices.Equal(room, before) {
			t.Fatalf("%s: written into", short(stored))
		}
	}
}

// writeInto writes into a store's buckets, their spare room too, and grows them.
func writeInto(s api.Store) {
	room := s.Buckets[:cap(s.Buckets)]
	for i := range room {
		room[i] = read("5q=5")
	}
	_ = append(s.Buckets, read("6q"))
}

func TestStoresAreTheirOwners(t *testing.T) {
	for _, size := range sizes() {
		first, _ := bucket.New(size)
		second, _ := bucket.New(size)
		writeInto(second)
		if !same(first, of(repeated(".", size))) {
			t.Errorf("%d: two new stores share their memory", size)
		}
	}
	s := of("0a x 8b . . 5c . .")
	for _, name := range []string{"0a", "8b", "1d", "6e"} {
		put, _ := bucket.Put(s, label(name), cell(3))
		again, _ := bucket.Put(s, label(name), cell(3))
		left, _, _ := bucket.Del(put, label(name))
		want, wantLeft := copyOf(put), copyOf(left)
		writeInto(again)
		if !same(put, want) || !same(left, wantLeft) {
			t.Errorf("%s: two answers share their memory", name)
		}
		writeInto(left)
		if !same(put, want) {
			t.Errorf("%s: a store is changed by what was made of it", name)
		}
	}
	// What was asked for in vain changes nothing; the answer is its owner's all the same.
	left, _, _ := bucket.Del(s, label("7z"))
	writeInto(left)
	if !same(s, of("0a x 8b . . 5c . .")) {
		t.Error("a store is changed by what was answered")
	}
}

func TestAllIsItsOwners(t *testing.T) {
	s := of("8a 0b=1 . 3c . . . .")
	want := allAgain(s)
	first := bucket.All(s)
	room := first[:cap(first)]
	for i := range room {
		room[i] = [2]string{"other", "one"}
	}
	_ = append(first, [2]string{"one", "more"})
	checkAll(t, s, want)
}

func TestAllAtOnce(t *testing.T) {
	s := of("8a 0b=1 x 3c=2 . . . 7d")
	put := of("8a 0b=1 0e=5 3c=2 . . . 7d")
	left := of("8a x x 3c=2 . . . 7d")
	grown, _ := putAgain(of("8a 0b=1 16c=2 3d 4e . . 7f"), label("1g"), cell(1))
	want := allAgain(s)
	var all sync.WaitGroup
	for range 8 {
		all.Go(func() {
			for range 200 {
				checkRight(t, s, true)
				checkPut(t, s, label("0e"), cell(5), put, api.OK)
				checkGet(t, s, label("3c"), cell(2), true)
				checkDel(t, s, label("0b"), left, true, api.OK)
				checkAll(t, s, want)
				checkPut(t, of("8a 0b=1 16c=2 3d 4e . . 7f"), label("1g"), cell(1), grown, api.OK)
			}
		})
	}
	all.Wait()
}
