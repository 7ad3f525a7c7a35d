package bucket_test

import (
	"encoding/binary"
	"math"
	"slices"
	"strconv"
	"strings"
	"testing"

	"columbarium/api"
	"columbarium/bucket"
)

// L1

func TestNew(t *testing.T) {
	for _, size := range sizes() {
		s, e := bucket.New(size)
		if want := (api.Store{Buckets: make([]api.Bucket, size)}); !same(s, want) || e != api.OK {
			t.Errorf("%d: %s, error %d", size, short(s), e)
		}
		checkRight(t, s, true)
	}
}

func TestNewOfNoSize(t *testing.T) {
	for _, size := range wrongSizes() {
		if s, e := bucket.New(size); !same(s, api.Store{}) || e != api.ErrArg {
			t.Errorf("%d: %s, error %d", size, short(s), e)
		}
	}
}

// The document's example.
func TestExample(t *testing.T) {
	s, e := bucket.New(8)
	if e != api.OK {
		t.Fatal(e)
	}
	first, second := strings.Repeat("\x00", 16), "\x00\x00\x00\x08"+strings.Repeat("\x00", 12)
	for _, l := range []string{first, second} {
		s, e = bucket.Put(s, l, cell(1))
		if e != api.OK {
			t.Fatal(e)
		}
	}
	if s.Buckets[0].Label != first || s.Buckets[1].Label != second || s.Many != 2 {
		t.Error(short(s))
	}
}

func TestHome(t *testing.T) {
	for _, x := range []struct {
		label string
		size  int
		want  int
	}{
		{"\x00\x00\x00\x00", 8, 0},
		{"\x00\x00\x00\x07", 8, 7},
		{"\x00\x00\x00\x08", 8, 0},
		{"\x00\x00\x00\x09", 8, 1},
		{"\x00\x00\x00\x09", 16, 9},
		{"\x00\x00\x01\x00", 4096, 256},
		{"\x00\x00\x10\x01", 4096, 1},
		{"\x01\x02\x03\x04", 4096, 0x304},
		{"\x01\x02\x03\x04", 1 << 32, 0x01020304},
		{"\xff\xff\xff\xff", 8, 7},
		{"\xff\xff\xff\xff", 1000, 295},
		{"\xff\xff\xff\xff", 1<<32 - 1, 0},
		{"\xff\xff\xff\xff", 1 << 32, 1<<32 - 1},
		{"\xff\xff\xff\xff", math.MaxInt, 1<<32 - 1},
		{"\x80\x00\x00\x00", 7, 2},
		{"\x80\x00\x00\x00", 1 << 40, 1 << 31},
		{"\x80\x00\x00\x01", 8, 1},
		{"\x00\x00\x00\x80", 1000, 128},
		{"\xff\xff\xff\xff", 1, 0},
		{"abcd", 2, 0},
		{"abce", 2, 1},
		// what stands behind the first four is not looked at
		{"\x00\x00\x00\x05\xff\xff\xff\xff\xff\xff\xff\xff\xff\xff\xff\xff", 4096, 5},
		{"\x00\x00\x00\x05\x00", 4096, 5},
		{"\x00\x00\x00\x05" + strings.Repeat("a", 5000), 4096, 5},
		// bytes, not letters
		{"ää", 1 << 32, 0xc3a4c3a4},
	} {
		checkHome(t, x.label, x.size, x.want)
	}
}

func TestHomeOfTooFewBytes(t *testing.T) {
	for _, l := range []string{"", "\x01", "\x01\x02", "\x01\x02\x03", "abc", "\xff\xff\xff", "ä", "€"} {
		for _, size := range []int{1, 7, 8, 4096, 1 << 32, math.MaxInt, 0, -1} {
			checkHome(t, l, size, 0)
		}
	}
}

func TestHomeAmongNone(t *testing.T) {
	for _, l := range []string{"abcd", "\xff\xff\xff\xff", label("9a"), ""} {
		for _, size := range []int{0, -1, -8, -1 << 32, math.MinInt} {
			checkHome(t, l, size, 0)
		}
	}
}

// Each byte counts by its place, in all its values.
func TestHomeOfEachByte(t *testing.T) {
	for at := range 4 {
		for value := range 256 {
			bytes := []byte(label("0a"))
			bytes[at] = byte(value)
			n := int(binary.BigEndian.Uint32(bytes))
			for _, size := range append(sizes(), 1, 3, 1000, 65537, 1<<31, 1<<40) {
				checkHome(t, string(bytes), size, n%size)
			}
		}
	}
}

// L2

func TestRight(t *testing.T) {
	for _, s := range rightStores() {
		checkRight(t, s, true)
	}
}

func TestNotRight(t *testing.T) {
	for _, s := range wrongStores() {
		checkRight(t, s, false)
	}
}

// One label anywhere, among buckets that are Gone and others that are Free: it is right from its home on, up to the first Free one.
func TestRightAtEachPlace(t *testing.T) {
	for _, gone := range [][]int{nil, {0}, {3}, {7}, {7, 0}, {2, 3, 4}, {6, 7, 0, 1}, {0, 2, 4, 6}, {0, 1, 2, 3, 4}, {5, 6, 7, 0, 1}} {
		for home := range 8 {
			for place := range 8 {
				words := strings.Fields(repeated(".", 8))
				for _, at := range gone {
					words[at] = "x"
				}
				words[place] = strconv.Itoa(home+16) + "a"
				s := of(strings.Join(words, " "))
				want := true
				for at := home; at != place; at = (at + 1) % 8 {
					want = want && s.Buckets[at].State != api.Free
				}
				checkRight(t, s, want)
			}
		}
	}
}

// L3

func TestGet(t *testing.T) {
	for _, s := range rightStores() {
		for _, b := range s.Buckets {
			if b.State == api.Used {
				checkGet(t, s, b.Label, b.Cell, true)
			}
		}
		for _, l := range wrongLabels() {
			checkGet(t, s, l, "", false)
		}
		checkGet(t, s, label("0z"), "", false)
		checkGet(t, s, label("4095z"), "", false)
	}
}

func TestGetOne(t *testing.T) {
	for _, x := range []struct {
		words string
		name  string
		want  int // the cell's number; -1: there is none
	}{
		{"0a=1 8b=2 . . . . . .", "0a", 1},
		{"0a=1 8b=2 . . . . . .", "8b", 2},
		{"0a=1 8b=2 . . . . . .", "0b", -1},
		{"0a=1 8b=2 . . . . . .", "8a", -1},
		{"0a=1 8b=2 . . . . . .", "2a", -1},
		{"x 8b=2 . . . . . .", "8b", 2},
		{"x 8b=2 . . . . . .", "0a", -1},
		{"7b=4 7c=0 . . . . . 7a=3", "7a", 3},
		{"7b=4 7c=0 . . . . . 7a=3", "7b", 4},
		{"7b=4 7c=0 . . . . . 7a=3", "7c", 0},
		{"7b=4 7c=0 . . . . . 7a=3", "7d", -1},
		{"x x x x x x . .", "0a", -1},
		{". . . . . . . .", "0a", -1},
	} {
		if x.want < 0 {
			checkGet(t, of(x.words), label(x.name), "", false)
		} else {
			checkGet(t, of(x.words), label(x.name), cell(x.want), true)
		}
	}
}

// L4

// steps are what is put (a word), or taken away (a name behind a minus), and the store then.
type step struct{ do, want string }

func checkSteps(t *testing.T, s api.Store, steps ...step) {
	t.Helper()
	for _, x := range steps {
		want := of(x.want)
		if name, is := strings.CutPrefix(x.do, "-"); is {
			checkDel(t, s, label(name), want, words(s) != words(want), api.OK)
		} else {
			b := read(x.do)
			checkPut(t, s, b.Label, b.Cell, want, api.OK)
			checkGet(t, want, b.Label, b.Cell, true)
		}
		checkRight(t, want, true)
		s = want
	}
}

func TestPutAtHomeAndBehind(t *testing.T) {
	checkSteps(t, of(repeated(".", 8)),
		step{"3a", ". . . 3a . . . ."},
		step{"11b=7", ". . . 3a 11b=7 . . ."},
		step{"4c", ". . . 3a 11b=7 4c . ."},
		step{"0d", "0d . . 3a 11b=7 4c . ."},
		step{"4294967295e", "0d . . 3a 11b=7 4c . 4294967295e"},
		step{"7f", "0d 7f . 3a 11b=7 4c . 4294967295e"},
	)
}

func TestPutAnotherCell(t *testing.T) {
	checkSteps(t, of(". 1a 1b x 1c . . ."),
		step{"1a=5", ". 1a=5 1b x 1c . . ."},
		step{"1b=6", ". 1a=5 1b=6 x 1c . . ."},
		// where it stands, though a bucket ahead of it is Gone
		step{"1c=7", ". 1a=5 1b=6 x 1c=7 . . ."},
		step{"1c=7", ". 1a=5 1b=6 x 1c=7 . . ."},
		step{"1c", ". 1a=5 1b=6 x 1c . . ."},
	)
	// As full as it may be, too.
	checkSteps(t, of("0a 1a 2a x 4a 5a . ."), step{"5a=1", "0a 1a 2a x 4a 5a=1 . ."})
}

func TestPutWhereOneIsGone(t *testing.T) {
	checkSteps(t, of(". 1a x 1b x . . ."),
		step{"1c", ". 1a 1c 1b x . . ."},
		step{"1d", ". 1a 1c 1b 1d . . ."},
		step{"1e", ". 1a 1c 1b 1d 1e . ."},
	)
	checkSteps(t, of(". x 1a . . . x ."),
		step{"9b", ". 9b 1a . . . x ."},
		// the first one on the way, which is not that of the lowest number
		step{"6c", ". 9b 1a . . . 6c ."},
		step{"6d", ". 9b 1a . . . 6c 6d"},
	)
	checkSteps(t, of("x 7b . . . x x 7a"), step{"7c", "7c 7b . . . x x 7a"})
	// Not behind one that is Free.
	checkSteps(t, of(". 1a . x . . . ."), step{"1b", ". 1a 1b x . . . ."}, step{"1c", ". 1a 1b 1c . . . ."})
}

func TestPutAnewIntoTwiceAsMany(t *testing.T) {
	// half of them Used, and two Gone: one more does not go in
	checkSteps(t, of("8a x 0b 10c x 3d . ."), step{"9e=3", "0b . . 3d . . . . 8a 9e=3 10c . . . . ."})
	// six Used
	checkSteps(t, of("8a 0b 10c 3d 11e 5f . ."), step{"19g", "0b . . 3d 19g 5f . . 8a . 10c 11e . . . ."})
	checkSteps(t, of("0a 1a 2a 3a 4a 5a . ."), step{"16b", "0a 1a 2a 3a 4a 5a 16b . . . . . . . . ."})
	// in the order of the buckets from 0 on: 7b comes ahead of 7a then
	checkSteps(t, of("7b=1 0c 1d 3e . . 6a 7a=2"),
		step{"7f", "0c 1d . 3e . . 6a 7b=1 7a=2 7f . . . . . ."},
		step{"7g", "0c 1d . 3e . . 6a 7b=1 7a=2 7f 7g . . . . ."},
	)
}

func TestPutAnewIntoAsMany(t *testing.T) {
	// three Used, three Gone
	checkSteps(t, of("x x x 0a 1b 2c . ."), step{"0d", "0a 1b 2c 0d . . . ."})
	checkSteps(t, of("0a x x 1b x 2c . ."), step{"6d=1", "0a 1b 2c . . . 6d=1 ."})
	// none Used
	checkSteps(t, of("x x x x x x . ."), step{"3a", ". . . 3a . . . ."})
	checkSteps(t, of("x . x x x x . x"), step{"7a", ". . . . . . . 7a"})
	// in the order of the buckets from 0 on, too
	checkSteps(t, of("x 7b . . x x x 7a"), step{"5c", "7a . . . . 5c . 7b"})
	// one fewer: nothing is put anew
	checkSteps(t, of("x x x 0a 1b . . ."), step{"0d", "0d x x 0a 1b . . ."})
}

// At each size: as many as may be go in, and the next one makes it twice as great.
func TestPutTillItGrows(t *testing.T) {
	for _, size := range sizes()[:9] {
		s, _ := bucket.New(size)
		for i, l := range labels(size*3/4 + 1) {
			var e api.Errno
			s, e = bucket.Put(s, l, cell(i))
			want := size
			if 4*(i+1) > 3*size {
				want = 2 * size
			}
			if len(s.Buckets) != want || s.Many != i+1 || s.Gone != 0 || e != api.OK {
				t.Fatalf("%d at %d: %d buckets, many %d, gone %d, error %d", i, size, len(s.Buckets), s.Many, s.Gone, e)
			}
		}
		checkRight(t, s, true)
	}
}

// goneAnd has so many that are Gone ahead of those of labels, which are Used.
func goneAnd(size, gone, many int) api.Store {
	s := of(repeated(".", size))
	for i := range gone {
		s.Buckets[i].State = api.Gone
	}
	for i := range many {
		name := strconv.Itoa(gone+i) + "b"
		s.Buckets[gone+i] = api.Bucket{State: api.Used, Label: label(name), Cell: cell(i)}
	}
	return counted(s)
}

// At each size, with as many Gone and Used as may be together: from half of them on that are Used it grows, and only then.
func TestPutAnewAtEachSize(t *testing.T) {
	for _, size := range sizes() {
		most := size * 3 / 4
		for _, many := range []int{0, 1, size/2 - 1, size / 2, size/2 + 1, most - 1, most} {
			s := goneAnd(size, most-many, many)
			got, e := bucket.Put(s, label("0a"), cell(1))
			want, wantSize := api.OK, size
			if many >= size/2 {
				wantSize = 2 * size
			}
			if wantSize > 4096 {
				want = api.ErrFull
				if !same(got, s) || e != want {
					t.Errorf("%d of %d: %s, error %d", many, size, short(got), e)
				}
				continue
			}
			if len(got.Buckets) != wantSize || got.Many != many+1 || got.Gone != 0 || e != want || !bucket.Right(got) {
				t.Errorf("%d of %d: %s, error %d", many, size, short(got), e)
			}
			checkGet(t, got, label("0a"), cell(1), true)
		}
		// one fewer is Gone: it goes in as it is
		s := goneAnd(size, most-size/2-1, size/2)
		got, e := bucket.Put(s, label("0a"), cell(1))
		if len(got.Buckets) != size || got.Many != size/2+1 || got.Gone != s.Gone-min(1, s.Gone) || e != api.OK {
			t.Errorf("%d: %s, error %d", size, short(got), e)
		}
	}
}

func TestPutIntoAFullOne(t *testing.T) {
	s := goneAnd(4096, 0, 3072)
	checkPut(t, s, label("0a"), cell(1), s, api.ErrFull)
	checkPut(t, s, label("4000a"), cell(1), s, api.ErrFull)
	// What is there has room.
	want := copyOf(s)
	want.Buckets[3071].Cell = cell(9)
	checkPut(t, s, label("3071b"), cell(9), want, api.OK)
	// One is taken away: there is no more room than before, till half of them are gone.
	less, _, _ := bucket.Del(s, label("5b"))
	checkPut(t, less, label("5b"), cell(1), less, api.ErrFull)
	for i := range 1025 {
		less, _, _ = bucket.Del(less, label(strconv.Itoa(i)+"b"))
	}
	got, e := bucket.Put(less, label("5b"), cell(1))
	if len(got.Buckets) != 4096 || got.Many != 2048 || got.Gone != 0 || e != api.OK {
		t.Error(short(got), e)
	}
}

func TestPutWhatMayNotBe(t *testing.T) {
	for _, words := range []string{". . . . . . . .", "0a . . . . . . .", "0a 1a 2a 3a 4a 5a . .", "x x x x x x . ."} {
		s := of(words)
		for _, l := range wrongLabels() {
			checkPut(t, s, l, cell(1), s, api.ErrArg)
			checkPut(t, s, l, "", s, api.ErrArg)
		}
		for _, c := range wrongCells() {
			checkPut(t, s, label("0a"), c, s, api.ErrArg)
			checkPut(t, s, label("0b"), c, s, api.ErrArg)
		}
	}
	// Ahead of ErrFull.
	full := goneAnd(4096, 0, 3072)
	checkPut(t, full, label("0a")[:15], cell(1), full, api.ErrArg)
	checkPut(t, full, label("0a"), cell(1)+"a", full, api.ErrArg)
}

// L5

func TestDel(t *testing.T) {
	checkSteps(t, of("7c 7d . 3a 11b . x 7a"),
		step{"-3a", "7c 7d . x 11b . x 7a"},
		step{"-3a", "7c 7d . x 11b . x 7a"},
		step{"-7c", "x 7d . x 11b . x 7a"},
		step{"-7d", "x x . x 11b . x 7a"},
		step{"-3b", "x x . x 11b . x 7a"},
		step{"-2a", "x x . x 11b . x 7a"},
		step{"-11b", "x x . x x . x 7a"},
		step{"-7a", "x x . x x . x x"},
		step{"-7a", "x x . x x . x x"},
	)
	checkSteps(t, of(repeated(".", 8)), step{"-0a", repeated(".", 8)})
}

// A label that is taken away may be put again: at the first bucket on its way that is Gone.
func TestDelAndPut(t *testing.T) {
	checkSteps(t, of("0a 0b 0c . . . . ."),
		step{"-0b", "0a x 0c . . . . ."},
		step{"0b=1", "0a 0b=1 0c . . . . ."},
		step{"-0a", "x 0b=1 0c . . . . ."},
		step{"-0b", "x x 0c . . . . ."},
		step{"0b", "0b x 0c . . . . ."},
		step{"0a", "0b 0a 0c . . . . ."},
	)
}

func TestDelEach(t *testing.T) {
	for _, s := range rightStores() {
		for place, b := range s.Buckets {
			if b.State != api.Used || place > 200 {
				continue
			}
			want := copyOf(s)
			want.Buckets[place] = api.Bucket{State: api.Gone}
			want.Many--
			want.Gone++
			checkDel(t, s, b.Label, want, true, api.OK)
			checkRight(t, want, true)
			checkGet(t, want, b.Label, "", false)
		}
		for _, l := range wrongLabels() {
			checkDel(t, s, l, s, false, api.OK)
		}
		checkDel(t, s, label("0z"), s, false, api.OK)
		checkDel(t, s, label("4095z"), s, false, api.OK)
	}
}

// L6

func TestAll(t *testing.T) {
	for _, x := range []struct{ words, want string }{
		{". . . . . . . .", ""},
		{"x x x x x x . .", ""},
		{". . . 3a=4 . . . .", "3a=4"},
		{"0b=1 0a=1 . . . . . .", "0a=1 0b=1"},
		{"7b . . 3a 11a x . 7a", "3a 7a 7b 11a"},
		{"4294967288c 0b=2 2147483648a=3 . . . 6e 255d", "0b=2 6e 255d 2147483648a=3 4294967288c"},
		// by bytes, the first one first
		{"16777216a 65536a 256a 0a . . . .", "0a 256a 65536a 16777216a"},
	} {
		var want [][2]string
		for _, b := range of(x.want).Buckets {
			want = append(want, [2]string{b.Label, b.Cell})
		}
		checkAll(t, of(x.words), want)
	}
}

func TestAllOfEach(t *testing.T) {
	for _, s := range rightStores() {
		var want [][2]string
		for _, b := range s.Buckets {
			if b.State == api.Used {
				want = append(want, [2]string{b.Label, b.Cell})
			}
		}
		slices.SortFunc(want, func(a, b [2]string) int { return strings.Compare(a[0], b[0]) })
		checkAll(t, s, want)
	}
}

// L3 to L6, of what is not right

func TestCallsOfAStoreThatIsNotRight(t *testing.T) {
	for _, s := range wrongStores() {
		asked := []string{label("0a"), label("0z"), "", "a"}
		for _, b := range s.Buckets[:min(16, len(s.Buckets))] {
			if b.Label != "" {
				asked = append(asked, b.Label)
			}
		}
		for _, l := range asked {
			checkPut(t, s, l, cell(1), s, api.ErrArg)
			checkGet(t, s, l, "", false)
			checkDel(t, s, l, s, false, api.ErrArg)
		}
		checkAll(t, s, nil)
	}
}
