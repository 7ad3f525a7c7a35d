package oracle_test

import (
	libaes "crypto/aes"
	"crypto/cipher"
	"crypto/hkdf"
	"crypto/hmac"
	"crypto/sha256"
	"encoding/binary"
	"encoding/hex"
	"math"
	"math/rand"
	"slices"
	"strings"
	"testing"

	"columbarium/api"
	"columbarium/oracle"
)

const maxCells = 2000

var key = sample(32)

// sample is n bytes of all values, without a short period.
func sample(n int) string {
	b := make([]byte, n)
	rand.New(rand.NewSource(int64(n) + 9)).Read(b)
	return string(b)
}

// numbered is n bytes that are other ones for each number; the number stands at their end.
func numbered(n, i int) string {
	return strings.Repeat("#", n-4) + string(binary.BigEndian.AppendUint32(nil, uint32(i)))
}

func labelOf(i int) string { return numbered(16, i) }
func textOf(i int) string  { return numbered(24, i) }
func cellOf(i int) string  { return numbered(40, i) }

// askOf is the bytes of a question, by the library.
func askOf(word string, epoch, count int) string {
	b := append([]byte{byte(len(word))}, word...)
	b = binary.BigEndian.AppendUint32(b, uint32(epoch))
	return string(binary.BigEndian.AppendUint32(b, uint32(count)))
}

// oracleOf is one that has answered so many labels, of the word `word` and the epoch 3, and made so many cells.
func oracleOf(mode, names, cells int) api.Oracle {
	o := api.Oracle{Mode: mode, Key: key, Ideal: api.Ideal{Tape: api.Tape{Bytes: sample(300), At: 7}}}
	for i := range names {
		o.Ideal.Names = append(o.Ideal.Names, api.Name{In: askOf("word", 3, i), Out: labelOf(i)})
	}
	for i := range cells {
		o.Ideal.Cells = append(o.Ideal.Cells, api.Made{Label: labelOf(i), Text: textOf(i), Cell: cellOf(i)})
	}
	return o
}

func modes() []int { return []int{api.Real, api.Drawn} }

func same(a, b api.Oracle) bool {
	x, y := a.Ideal, b.Ideal
	return a.Mode == b.Mode && a.Key == b.Key && x.Tape == y.Tape && x.Clash == y.Clash && slices.Equal(x.Names, y.Names) && slices.Equal(x.Cells, y.Cells)
}

// copyOf shares no list with an oracle.
func copyOf(o api.Oracle) api.Oracle {
	o.Ideal.Names, o.Ideal.Cells = slices.Clone(o.Ideal.Names), slices.Clone(o.Ideal.Cells)
	return o
}

// withName is an oracle that has answered a label more, and taken so many bytes for it; withCell so with a cell.
func withName(o api.Oracle, taken int, in, out string, clash bool) api.Oracle {
	o = copyOf(o)
	o.Ideal.Tape.At += taken
	o.Ideal.Names = append(o.Ideal.Names, api.Name{In: in, Out: out})
	o.Ideal.Clash = clash
	return o
}

func withCell(o api.Oracle, taken int, label, text, cell string, clash bool) api.Oracle {
	o = copyOf(o)
	o.Ideal.Tape.At += taken
	o.Ideal.Cells = append(o.Ideal.Cells, api.Made{Label: label, Text: text, Cell: cell})
	o.Ideal.Clash = clash
	return o
}

func rightOracles() []api.Oracle {
	var out []api.Oracle
	for _, mode := range modes() {
		none := oracleOf(mode, 3, 3)
		none.Ideal.Tape.At = 300
		clash := oracleOf(mode, 3, 3)
		clash.Ideal.Names[2].Out, clash.Ideal.Clash = labelOf(0), true
		other := oracleOf(mode, 3, 3)
		other.Key = strings.Repeat("ä", 16)
		asked := oracleOf(mode, 3, 3) // what no word is asked by, but a question of chapter 8
		asked.Ideal.Names[1].In = sample(100)
		out = append(out, api.Oracle{Mode: mode, Key: key}, oracleOf(mode, 3, 3), oracleOf(mode, 2000, maxCells), none, clash, other, asked)
	}
	return out
}

func wrongTapes() []api.Tape {
	most := sample(api.MaxTape)
	return []api.Tape{{At: 1}, {At: -1}, {Bytes: "abc", At: 4}, {Bytes: "abc", At: math.MinInt}, {Bytes: most + "a"}, {Bytes: most, At: math.MaxInt}}
}

// wrongKeys are of other lengths; one has 32 letters, but more bytes.
func wrongKeys() []string {
	out := []string{strings.Repeat("ä", 32)}
	for _, n := range []int{0, 1, 16, 31, 33, 64, 1000, 1001, 1 << 20} {
		out = append(out, sample(n))
	}
	return out
}

func wrongModes() []int {
	return []int{0, 3, 4, -1, -2, 1 + 1<<32, 2 + 1<<8, math.MaxInt, math.MinInt}
}

// wrongOracles break one thing each.
func wrongOracles() []api.Oracle {
	out := []api.Oracle{{}}
	for _, mode := range wrongModes() {
		out = append(out, oracleOf(mode, 3, 3))
	}
	for _, mode := range modes() {
		add := func(names, cells int, change func(o *api.Oracle)) {
			o := oracleOf(mode, names, cells)
			change(&o)
			out = append(out, o)
		}
		for _, wrong := range wrongKeys() {
			add(3, 3, func(o *api.Oracle) { o.Key = wrong })
		}
		for _, wrong := range wrongTapes() {
			add(3, 3, func(o *api.Oracle) { o.Ideal.Tape = wrong })
		}
		add(0, 0, func(o *api.Oracle) { o.Ideal.Clash = true })
		add(3, 3, func(o *api.Oracle) { o.Ideal.Names[2].Out = labelOf(0) })
		add(3, 3, func(o *api.Oracle) { o.Ideal.Names[2].Out = "short" })
		add(3, 3, func(o *api.Oracle) { o.Ideal.Names[2].In = o.Ideal.Names[0].In })
		add(3, 3, func(o *api.Oracle) { o.Ideal.Names[2].In = sample(101) })
		add(3, 3, func(o *api.Oracle) { o.Ideal.Cells[2].Text = sample(25) })
		add(2001, 0, func(o *api.Oracle) {})
		add(0, maxCells+1, func(o *api.Oracle) {})
	}
	return out
}

func checkLabel(t *testing.T, o api.Oracle, word string, epoch, count int, want string, then api.Oracle, e api.Errno) {
	t.Helper()
	before := copyOf(o)
	got, n, f := oracle.Label(o, word, epoch, count)
	if got != want || f != e || !same(n, then) || !same(o, before) {
		t.Errorf("mode %d, Label of %.40q, %d, %d, of %d names: %x, error %d, %d names, at %d, clash %v; want %x, error %d, %d names, at %d, clash %v", o.Mode, word, epoch, count, len(o.Ideal.Names), got, f, len(n.Ideal.Names), n.Ideal.Tape.At, n.Ideal.Clash, want, e, len(then.Ideal.Names), then.Ideal.Tape.At, then.Ideal.Clash)
	}
}

func checkCell(t *testing.T, o api.Oracle, label, text, want string, then api.Oracle, e api.Errno) {
	t.Helper()
	before := copyOf(o)
	got, n, f := oracle.Cell(o, label, text)
	if got != want || f != e || !same(n, then) || !same(o, before) {
		t.Errorf("mode %d, Cell of %.60x, %.60x, of %d cells: %x, error %d, %d cells, at %d, clash %v; want %x, error %d, %d cells, at %d, clash %v", o.Mode, label, text, len(o.Ideal.Cells), got, f, len(n.Ideal.Cells), n.Ideal.Tape.At, n.Ideal.Clash, want, e, len(then.Ideal.Cells), then.Ideal.Tape.At, then.Ideal.Clash)
	}
}

func checkOpen(t *testing.T, o api.Oracle, label, cell, want string, e api.Errno) {
	t.Helper()
	before := copyOf(o)
	if got, f := oracle.Open(o, label, cell); got != want || f != e || !same(o, before) {
		t.Errorf("mode %d, Open of %.60x, %.60x, of %d cells: %x, error %d; want %x, error %d", o.Mode, label, cell, len(o.Ideal.Cells), got, f, want, e)
	}
}

// The same by the library, and by nothing of the project's.

func libraryKey(key, name string) string {
	out, err := hkdf.Expand(sha256.New, []byte(key), name, 32)
	if err != nil {
		panic(err)
	}
	return string(out)
}

func libraryTag(key string, parts ...string) string {
	h := hmac.New(sha256.New, []byte(key))
	for _, x := range parts {
		h.Write([]byte(x))
	}
	return string(h.Sum(nil)[:16])
}

func libraryLabel(key, asked string) string { return libraryTag(libraryKey(key, "label"), asked) }

func libraryCell(key, label, text string) string {
	key = libraryKey(key, "cell")
	block, err := libaes.NewCipher([]byte(libraryKey(key, "stream")))
	if err != nil {
		panic(err)
	}
	hidden := make([]byte, len(text))
	cipher.NewCTR(block, []byte(label)).XORKeyStream(hidden, []byte(text))
	return string(hidden) + libraryTag(libraryKey(key, "tag"), "\x00\x00\x00\x10", label, "\x00\x00\x00\x00", "\x00\x00\x00\x18", string(hidden))
}

func unhex(t *testing.T, digits string) string {
	t.Helper()
	b, err := hex.DecodeString(digits)
	if err != nil {
		t.Fatal(err)
	}
	return string(b)
}
