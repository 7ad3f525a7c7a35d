package bucket_test

import (
	"encoding/binary"
	"math"
	"slices"
	"strconv"
	"strings"
	"testing"

	"columbarium/api"
	"columbarium/bucket"
)

// In these tests a store is words, one a bucket: "." is Free, "x" is Gone, and "14b" is a label whose first four bytes are the number 14, with the cell of number 0; "14b=3" is that label with the cell of number 3.

const behind = "eleven more" // bytes of a label behind its number and its letter

func label(name string) string {
	letter := len(name) - 1
	n, err := strconv.ParseUint(name[:letter], 10, 32)
	if err != nil {
		panic(err)
	}
	return string(binary.BigEndian.AppendUint32(nil, uint32(n))) + name[letter:] + behind
}

func cell(n int) string { return strings.Repeat(string([]byte{byte(n)}), 40) }

// labels are so many, each another one, with the numbers from 0 on as their homes.
func labels(n int) []string {
	var out []string
	for i := range n {
		out = append(out, label(strconv.Itoa(i)+"a"))
	}
	return out
}

func read(word string) api.Bucket {
	switch word {
	case ".":
		return api.Bucket{State: api.Free}
	case "x":
		return api.Bucket{State: api.Gone}
	}
	name, of, _ := strings.Cut(word, "=")
	n, _ := strconv.Atoi(of)
	return api.Bucket{State: api.Used, Label: label(name), Cell: cell(n)}
}

// of is the store of these words, counted.
func of(words string) api.Store {
	var s api.Store
	for word := range strings.FieldsSeq(words) {
		s.Buckets = append(s.Buckets, read(word))
	}
	return counted(s)
}

func counted(s api.Store) api.Store {
	s.Many, s.Gone = 0, 0
	for _, b := range s.Buckets {
		switch b.State {
		case api.Used:
			s.Many++
		case api.Gone:
			s.Gone++
		}
	}
	return s
}

// write tells a bucket's word; what no word tells is told by its bytes.
func write(b api.Bucket) string {
	if len(b.Label) >= 5 {
		n := binary.BigEndian.Uint32([]byte(b.Label))
		word := strconv.Itoa(int(n)) + b.Label[4:5]
		if b.Cell != "" && b.Cell[0] != 0 {
			word += "=" + strconv.Itoa(int(b.Cell[0]))
		}
		if read(word) == b {
			return word
		}
	}
	for _, word := range []string{".", "x"} {
		if read(word) == b {
			return word
		}
	}
	return strconv.Itoa(b.State) + strconv.Quote(b.Label) + strconv.Quote(b.Cell)
}

func words(s api.Store) string {
	var out []string
	for _, b := range s.Buckets {
		out = append(out, write(b))
	}
	return strings.Join(out, " ")
}

// short tells of words what can be read of a failed test.
func short(s api.Store) string {
	all := words(s)
	if len(all) > 300 {
		all = all[:300] + ".."
	}
	return strconv.Itoa(len(s.Buckets)) + " buckets: " + all + ", many " + strconv.Itoa(s.Many) + ", gone " + strconv.Itoa(s.Gone)
}

func same(a, b api.Store) bool {
	return a.Many == b.Many && a.Gone == b.Gone && slices.Equal(a.Buckets, b.Buckets)
}

func copyOf(s api.Store) api.Store {
	s.Buckets = slices.Clone(s.Buckets)
	return s
}

func sizes() []int { return []int{8, 16, 32, 64, 128, 256, 512, 1024, 2048, 4096} }

func wrongSizes() []int {
	out := []int{math.MinInt, math.MinInt + 8, -1 << 32, -4096, -16, -8, -1, 5000, 8192, 16384, 1 << 20, 1 << 31, 1<<32 + 8, 1 << 62, math.MaxInt}
	for n := range 4200 {
		if !slices.Contains(sizes(), n) {
			out = append(out, n)
		}
	}
	return out
}

// repeated are words so often.
func repeated(word string, many int) string { return strings.Repeat(" "+word, many) }

// rightStores may be: ones of each size, some as full as they may be, with labels at home, behind it, round, and behind what is Gone.
func rightStores() []api.Store {
	var out []api.Store
	for _, size := range sizes() {
		most := size * 3 / 4
		full := of(repeated(".", size))
		for i, l := range labels(most) {
			full.Buckets[i] = api.Bucket{State: api.Used, Label: l, Cell: cell(i)}
		}
		out = append(out, of(repeated(".", size)), of(repeated("x", most)+repeated(".", size-most)), counted(full))
	}
	for _, words := range []string{
		"0a . . . . . . .",
		". . . . . . . 7a",
		"0a 0b 0c 0d 0e 0f . .",
		"0f 0e 0d=9 0c 0b 0a . .",
		". . 2a 10b 18c 4294967290d 2e 2f",
		"7b . . . . . . 7a",
		"6c 6d . . . 5a 6a 6b",
		"3d . . x 3b x x 15e",
		"x 7a . . . . x x",
		". x x x x 1b 1a .",
		"x x . . x x x x",
		"0a 1a 2a 3a 4a 5a . .",
		"6a 7a 0a . . 5a x x",
		". 4294967289a 9b . 2147483652c 4d . 3000000007e",
		". . . . . . . . 8a . 10a 10b . 13c=255 . 15z",
		"15b x 31c . . . . . . . . . . . . 15a",
	} {
		out = append(out, of(words))
	}
	return out
}

// changed are copies of a store that is right, each with one thing changed that makes it wrong.
func changed() []api.Store {
	var out []api.Store
	change := func(words string, with func(s *api.Store)) {
		s := of(words)
		with(&s)
		out = append(out, s)
	}
	good := "0a 8b x . . 5c . ."
	for _, n := range []int{-1, 1, 7, 4096, math.MinInt, math.MaxInt, 1 << 32, 1 << 61, 1 << 62, -1 << 62} {
		change(good, func(s *api.Store) { s.Many += n })
		change(good, func(s *api.Store) { s.Gone += n })
		change(good, func(s *api.Store) { s.Many, s.Gone = s.Many+n, s.Gone-n })
	}
	for _, state := range []int{-1, 3, 4, 255, 256, 257, 258, 1 << 32, 1<<32 + 1, math.MinInt, math.MaxInt} {
		for at := range 8 {
			change(good, func(s *api.Store) {
				s.Buckets[at].State = state
				*s = counted(*s)
			})
		}
	}
	for _, text := range []string{"", "a", strings.Repeat("a", 15), strings.Repeat("a", 17), strings.Repeat("ä", 16), strings.Repeat("a", 4000)} {
		change(good, func(s *api.Store) { s.Buckets[0].Label = text })
		change(good, func(s *api.Store) { s.Buckets[5].Label = text })
	}
	// Such as stand where they would at best.
	for _, size := range []int{4, 15, 17, 40} {
		change(good, func(s *api.Store) { s.Buckets[0].Label = strings.Repeat("\x00", size) })
	}
	for _, text := range []string{"", "a", strings.Repeat("a", 16), strings.Repeat("a", 39), strings.Repeat("a", 41), strings.Repeat("ä", 40)} {
		change(good, func(s *api.Store) { s.Buckets[0].Cell = text })
		change(good, func(s *api.Store) { s.Buckets[5].Cell = text })
	}
	for _, at := range []int{2, 3, 7} {
		change(good, func(s *api.Store) { s.Buckets[at].Label = "a" })
		change(good, func(s *api.Store) { s.Buckets[at].Cell = "a" })
		change(good, func(s *api.Store) { s.Buckets[at].Label = label(strconv.Itoa(at) + "a") })
		change(good, func(s *api.Store) { s.Buckets[at].Cell = cell(0) })
		change(good, func(s *api.Store) {
			s.Buckets[at].Label, s.Buckets[at].Cell = label(strconv.Itoa(at)+"a"), cell(0)
		})
	}
	for _, state := range []int{api.Free, api.Used, api.Gone} {
		for at := range 8 {
			change(good, func(s *api.Store) {
				if s.Buckets[at].State != state {
					s.Buckets[at].State = state
				} else {
					s.Many++
				}
			})
		}
	}
	return out
}

// wrongStores may not be, for one reason each.
func wrongStores() []api.Store {
	out := changed()
	for _, size := range wrongSizes() {
		if size >= 0 && size <= 5000 && (size < 100 || size > 4000 || size%97 == 0) {
			out = append(out, api.Store{Buckets: make([]api.Bucket, size)})
		}
	}
	out = append(out, api.Store{}, of(repeated(".", 8192)), of("0a"), of("0a . . ."), of("0a . . . . . ."), of("0a . . . . . . . ."))
	for _, size := range sizes() {
		most := size * 3 / 4
		out = append(out, of(repeated("x", most+1)+repeated(".", size-most-1)), of(repeated("x", size)))
		full := of(repeated("x", size))
		for i, l := range labels(size) {
			full.Buckets[i] = api.Bucket{State: api.Used, Label: l, Cell: cell(i)}
			if i == most || i == size-1 {
				out = append(out, counted(copyOf(full)))
			}
			if i > most && size > 64 {
				break
			}
		}
	}
	for _, words := range []string{
		// too few that are Free
		"0a 1a 2a 3a 4a 5a x .",
		"0a x x x x x x .",
		"0a 0b 0c 0d 0e 0f 0g .",
		// twice
		"0a 0a . . . . . .",
		"0a x 0a . . . . .",
		"0a 0b 0a=1 . . . . .",
		"7a . . . . . . 7a",
		"0a . . 0a . . . .",
		// not on its way
		". 0a . . . . . .",
		". . . . . . . 0a",
		"7a . . . . . . .",
		"0a . 0b . . . . .",
		"0a x . 0b . . . .",
		"0a . 9a 9b 9c 9d . .",
		"7a . . . . . x .",
		"6a . . . . . 6b .",
		"x x . . . . . 1a",
		". 1a 2a 3a 4a 5a . 1b",
		"6b 0a . . . . . 6a",
		". x x x x x 0a .",
		"1a . . . . . . .",
		". 2a . . . . . .",
		". . . . . . . . 0a . . . . . . .",
		". . . . . . . . . . . . . 14a 30b 29c",
	} {
		out = append(out, of(words))
	}
	return out
}

// wrongLabels have not the bytes of one; some have as many letters.
func wrongLabels() []string {
	out := []string{strings.Repeat("ä", 16), label("0a") + "b", label("0a")[:15], "\x00\x00\x00\x00"}
	for _, size := range []int{0, 1, 3, 4, 5, 15, 17, 32, 40, 65536} {
		out = append(out, strings.Repeat("\x00", size))
	}
	return out
}

func wrongCells() []string {
	out := []string{strings.Repeat("ä", 40), cell(1) + "b", cell(1)[:39]}
	for _, size := range []int{0, 1, 16, 24, 39, 41, 80, 65536} {
		out = append(out, strings.Repeat("\x01", size))
	}
	return out
}

func checkPut(t *testing.T, s api.Store, label, cell string, want api.Store, e api.Errno) {
	t.Helper()
	if got, f := bucket.Put(s, label, cell); !same(got, want) || f != e {
		t.Errorf("put %.20q into %s: %s, error %d; want %s, error %d", label, short(s), short(got), f, short(want), e)
	}
}

func checkGet(t *testing.T, s api.Store, label, want string, is bool) {
	t.Helper()
	if got, has := bucket.Get(s, label); got != want || has != is {
		t.Errorf("get %.20q from %s: %.3q, %v; want %.3q, %v", label, short(s), got, has, want, is)
	}
}

func checkDel(t *testing.T, s api.Store, label string, want api.Store, is bool, e api.Errno) {
	t.Helper()
	if got, was, f := bucket.Del(s, label); !same(got, want) || was != is || f != e {
		t.Errorf("del %.20q from %s: %s, %v, error %d; want %s, %v, error %d", label, short(s), short(got), was, f, short(want), is, e)
	}
}

func checkAll(t *testing.T, s api.Store, want [][2]string) {
	t.Helper()
	if got := bucket.All(s); !slices.Equal(got, want) {
		t.Errorf("all of %s: %.5q, want %.5q", short(s), got, want)
	}
}

func checkRight(t *testing.T, s api.Store, want bool) {
	t.Helper()
	if got := bucket.Right(s); got != want {
		t.Errorf("%s: right %v, want %v", short(s), got, want)
	}
}

func checkHome(t *testing.T, label string, size, want int) {
	t.Helper()
	if got := bucket.Home(label, size); got != want {
		t.Errorf("home of %.20q among %d: %d, want %d", label, size, got, want)
	}
}
