package digest_test

import (
	"crypto/sha256"
	"encoding"
	"encoding/binary"
	"encoding/hex"
	"math"
	"math/big"
	"math/rand"
	"strings"
	"testing"

	"columbarium/api"
	"columbarium/digest"
)

// sample is n bytes of all values, without a short period.
func sample(n int) string {
	b := make([]byte, n)
	rand.New(rand.NewSource(int64(n) + 1)).Read(b)
	return string(b)
}

func librarySum(s string) string {
	sum := sha256.Sum256([]byte(s))
	return string(sum[:])
}

// libraryCompress puts eight words into the library's sum, adds one block, and takes the words out again.
func libraryCompress(t *testing.T, h [8]uint32, block string) [8]uint32 {
	t.Helper()
	d := sha256.New()
	state, err := d.(encoding.BinaryMarshaler).MarshalBinary()
	if err != nil {
		t.Fatal(err)
	}
	const words = 4 // the state's words stand behind four bytes that tell its kind
	for i, w := range h {
		binary.BigEndian.PutUint32(state[words+4*i:], w)
	}
	if err := d.(encoding.BinaryUnmarshaler).UnmarshalBinary(state); err != nil {
		t.Fatal(err)
	}
	d.Write([]byte(block))
	state, err = d.(encoding.BinaryMarshaler).MarshalBinary()
	if err != nil {
		t.Fatal(err)
	}
	for i := range h {
		h[i] = binary.BigEndian.Uint32(state[words+4*i:])
	}
	return h
}

func add(t *testing.T, h api.Hash, s string) api.Hash {
	t.Helper()
	got, e := digest.Add(h, s)
	if e != api.OK {
		t.Fatalf("Add of %d bytes behind %d: error %d", len(s), h.Many, e)
	}
	return got
}

func end(t *testing.T, h api.Hash) string {
	t.Helper()
	got, e := digest.End(h)
	if e != api.OK {
		t.Fatalf("End behind %d bytes: error %d", h.Many, e)
	}
	return got
}

// wrongHashes may not be: too few or too many bytes, or a rest that does not fit them.
func wrongHashes() []api.Hash {
	first := digest.New().H
	return []api.Hash{
		{H: first, Many: -1},
		{H: first, Many: -1, Rest: "a"},
		{H: first, Many: -1, Rest: sample(63)},
		{H: first, Many: -64},
		{H: first, Many: math.MinInt},
		{H: first, Many: math.MaxInt, Rest: sample(63)},
		{H: first, Many: api.MaxBytes + 1, Rest: "a"},
		{H: first, Many: api.MaxBytes + 64},
		{H: first, Many: api.MaxBytes, Rest: "a"},
		{H: first, Many: 1},
		{H: first, Many: 63, Rest: sample(62)},
		{H: first, Many: 64, Rest: sample(64)},
		{H: first, Many: 65, Rest: sample(65)},
		{H: first, Many: 65, Rest: sample(2)},
		{H: first, Rest: "a"},
		{H: first, Rest: sample(64)},
		{Rest: "a"},
	}
}

// A1

func TestCompressAnyWords(t *testing.T) {
	r := rand.New(rand.NewSource(1))
	for n := range 500 {
		var h [8]uint32
		for i := range h {
			h[i] = r.Uint32()
		}
		block := sample(64 + n)[n:]
		want := libraryCompress(t, h, block)
		kept := h
		got, e := digest.Compress(h, block)
		if got != want || e != api.OK || h != kept {
			t.Fatalf("words %x, block %x: %x, error %d; want %x", h, block, got, e, want)
		}
	}
}

func TestCompressEdgeWords(t *testing.T) {
	full := [8]uint32{}
	for i := range full {
		full[i] = math.MaxUint32
	}
	for _, h := range [][8]uint32{{}, full, digest.New().H} {
		for _, c := range []string{"\x00", "\xff", "\x80", "\x01"} {
			block := strings.Repeat(c, 64)
			got, e := digest.Compress(h, block)
			if want := libraryCompress(t, h, block); got != want || e != api.OK {
				t.Errorf("words %x, bytes %x: %x, error %d; want %x", h, c, got, e, want)
			}
		}
	}
}

func TestCompressLength(t *testing.T) {
	for _, n := range []int{0, 1, 4, 32, 62, 63, 64, 65, 66, 127, 128, 129, api.MaxBytes, api.MaxBytes + 1} {
		h, e := digest.Compress(digest.New().H, sample(n))
		if n == 64 {
			if e != api.OK || h == [8]uint32{} {
				t.Errorf("64 bytes: %x, error %d", h, e)
			}
			continue
		}
		if e != api.ErrArg || h != [8]uint32{} {
			t.Errorf("%d bytes: %x, error %d", n, h, e)
		}
	}
}

// A2

func TestNew(t *testing.T) {
	want := api.Hash{}
	for i, p := range []int64{2, 3, 5, 7, 11, 13, 17, 19} {
		root := new(big.Int).Lsh(big.NewInt(p), 64)
		want.H[i] = uint32(root.Sqrt(root).Uint64())
	}
	if got := digest.New(); got != want {
		t.Errorf("%x, want %x", got, want)
	}
}

func TestNewIsFresh(t *testing.T) {
	h := digest.New()
	h.H[0]++
	h.Rest = "a"
	if got := digest.New(); got.H[0] != h.H[0]-1 || got.Rest != "" {
		t.Errorf("what was written into one answer is in the next: %x", got)
	}
}

func TestRight(t *testing.T) {
	for _, n := range []int{0, 1, 62, 63, 64, 65, 127, 128, 129, api.MaxBytes - 64, api.MaxBytes - 1, api.MaxBytes} {
		if !digest.Right(api.Hash{H: digest.New().H, Many: n, Rest: sample(n % 64)}) {
			t.Errorf("%d bytes: not right", n)
		}
		if !digest.Right(api.Hash{Many: n, Rest: sample(n % 64)}) {
			t.Errorf("%d bytes, words of noughts: not right", n)
		}
	}
	for _, h := range wrongHashes() {
		if digest.Right(h) {
			t.Errorf("Many %d, Rest of %d bytes: right", h.Many, len(h.Rest))
		}
	}
}

// A3

func TestAddFields(t *testing.T) {
	lengths := []int{0, 1, 31, 62, 63, 64, 65, 126, 127, 128, 129, 191, 192, 193, 1000}
	for _, n := range lengths {
		for _, m := range lengths {
			text := sample(n + m)
			got := add(t, add(t, digest.New(), text[:n]), text[n:])
			want := api.Hash{H: digest.New().H, Rest: text, Many: n + m}
			for ; len(want.Rest) >= 64; want.Rest = want.Rest[64:] {
				want.H = libraryCompress(t, want.H, want.Rest[:64])
			}
			if got != want || !digest.Right(got) {
				t.Fatalf("%d and %d bytes: %x, want %x", n, m, got, want)
			}
		}
	}
}

func TestAddToAnyWords(t *testing.T) {
	h := api.Hash{H: [8]uint32{1, 2, 3, 4, 5, 6, 7, 8}, Rest: sample(10), Many: 64*9 + 10}
	text := h.Rest + sample(60)
	want := api.Hash{H: libraryCompress(t, h.H, text[:64]), Rest: text[64:], Many: h.Many + 60}
	if got := add(t, h, sample(60)); got != want {
		t.Errorf("%x, want %x", got, want)
	}
}

func TestAddLong(t *testing.T) {
	full := sample(api.MaxBytes)
	for _, n := range []int{0, 1, 63, 64, 65, api.MaxBytes - 1, api.MaxBytes} {
		h := add(t, digest.New(), full[:n])
		if got, e := digest.Add(h, full[n:]+"x"); e != api.ErrLong || got != (api.Hash{}) {
			t.Errorf("one byte too many behind %d: error %d", n, e)
		}
		got := add(t, h, full[n:])
		if got.Many != api.MaxBytes || got.Rest != "" {
			t.Errorf("2^20 bytes, %d of them first: Many %d, Rest of %d bytes", n, got.Many, len(got.Rest))
		}
		if end(t, got) != librarySum(full) {
			t.Errorf("2^20 bytes, %d of them first: another sum", n)
		}
		if same := add(t, got, ""); same != got {
			t.Errorf("nothing added behind 2^20 bytes changes them")
		}
	}
}

func TestAddWrong(t *testing.T) {
	for _, h := range wrongHashes() {
		// A text that is too long besides: ErrArg is named first.
		for _, s := range []string{"", "x", sample(64), sample(api.MaxBytes + 1)} {
			if got, e := digest.Add(h, s); e != api.ErrArg || got != (api.Hash{}) {
				t.Errorf("Many %d, Rest of %d bytes, %d added: error %d", h.Many, len(h.Rest), len(s), e)
			}
		}
	}
}

// A4

func TestSumKnown(t *testing.T) {
	for s, want := range map[string]string{
		"":    "e3b0c44298fc1c149afbf4c8996fb92427ae41e4649b934ca495991b7852b855",
		"abc": "ba7816bf8f01cfea414140de5dae2223b00361a396177a9cb410ff61f20015ad",
	} {
		got, e := digest.Sum(s)
		if hex.EncodeToString([]byte(got)) != want || e != api.OK {
			t.Errorf("%q: %x, error %d", s, got, e)
		}
	}
}

func TestSumLengths(t *testing.T) {
	lengths := []int{1<<16 - 1, 1 << 16, 1<<16 + 1, api.MaxBytes - 65, api.MaxBytes - 64, api.MaxBytes - 63, api.MaxBytes - 9, api.MaxBytes - 8, api.MaxBytes - 1, api.MaxBytes}
	for n := range 400 {
		lengths = append(lengths, n)
	}
	for _, n := range lengths {
		s := sample(n)
		got, e := digest.Sum(s)
		if want := librarySum(s); got != want || e != api.OK {
			t.Errorf("%d bytes: %x, error %d; want %x", n, got, e, want)
		}
	}
}

func TestSumLong(t *testing.T) {
	for _, n := range []int{api.MaxBytes + 1, api.MaxBytes + 64, 2 * api.MaxBytes} {
		if got, e := digest.Sum(sample(n)); got != "" || e != api.ErrLong {
			t.Errorf("%d bytes: %x, error %d", n, got, e)
		}
	}
}

func TestEndWrong(t *testing.T) {
	for _, h := range wrongHashes() {
		if got, e := digest.End(h); got != "" || e != api.ErrArg {
			t.Errorf("Many %d, Rest of %d bytes: %x, error %d", h.Many, len(h.Rest), got, e)
		}
	}
}

// End takes H as it stands: words that no text was compressed to are none the worse.
func TestEndAnyWords(t *testing.T) {
	for _, n := range []int{0, 1, 54, 55, 56, 57, 62, 63, 64, 119, 120, api.MaxBytes - 1, api.MaxBytes} {
		h := api.Hash{H: [8]uint32{1 << 31, 2, 0, 0xffffffff, 5, 6, 7, 8}, Rest: sample(n % 64), Many: n}
		part := h.Rest + "\x80"
		for len(part)%64 != 56 {
			part += "\x00"
		}
		part += string(binary.BigEndian.AppendUint64(nil, uint64(8*n)))
		words := h.H
		for ; part != ""; part = part[64:] {
			words = libraryCompress(t, words, part[:64])
		}
		var want []byte
		for _, w := range words {
			want = binary.BigEndian.AppendUint32(want, w)
		}
		if got := end(t, h); got != string(want) {
			t.Errorf("%d bytes: %x, want %x", n, got, want)
		}
	}
}

// A5

func TestTwoParts(t *testing.T) {
	for _, n := range []int{0, 1, 55, 56, 63, 64, 65, 127, 128, 129, 200} {
		text := sample(n)
		want := librarySum(text)
		for k := range n + 1 {
			if got := end(t, add(t, add(t, digest.New(), text[:k]), text[k:])); got != want {
				t.Errorf("%d bytes, %d of them first: %x, want %x", n, k, got, want)
			}
		}
	}
}

func TestManyParts(t *testing.T) {
	r := rand.New(rand.NewSource(5))
	for range 200 {
		text := sample(r.Intn(2000))
		h := digest.New()
		for left := text; left != ""; {
			n := min(r.Intn(150), len(left)) // now and then none at all
			h = add(t, h, left[:n])
			left = left[n:]
		}
		whole, e := digest.Sum(text)
		if got := end(t, h); got != whole || e != api.OK || got != librarySum(text) {
			t.Fatalf("%d bytes: %x, whole %x, error %d", len(text), got, whole, e)
		}
	}
}

func TestEndChangesNothing(t *testing.T) {
	text := sample(300)
	h := digest.New()
	for n := range len(text) {
		kept := h
		first, again := end(t, h), end(t, h)
		if first != librarySum(text[:n]) || again != first || h != kept {
			t.Fatalf("%d bytes: %x, again %x", n, first, again)
		}
		h = add(t, h, text[n:n+1])
	}
	if got := end(t, h); got != librarySum(text) {
		t.Errorf("%x, want %x", got, librarySum(text))
	}
}

// One sum on its way may be gone on with in two directions.
func TestAddBranches(t *testing.T) {
	for _, n := range []int{0, 10, 63, 64, 100} {
		text := sample(n)
		h := add(t, digest.New(), text)
		a, b := add(t, h, sample(70)), add(t, h, sample(90))
		if end(t, h) != librarySum(text) || end(t, a) != librarySum(text+sample(70)) || end(t, b) != librarySum(text+sample(90)) {
			t.Errorf("%d bytes: one direction changed another", n)
		}
	}
}
