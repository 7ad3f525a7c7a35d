package stream_test

import (
	libaes "crypto/aes"
	"crypto/cipher"
	"encoding/hex"
	"math"
	"math/big"
	"math/rand"
	"strings"
	"sync"
	"testing"

	"columbarium/aes"
	"columbarium/api"
	"columbarium/stream"
)

const mostFurther = 1 << 40

var zeros, most = strings.Repeat("\x00", 16), strings.Repeat("\xff", 16)

// SP 800-38A: four blocks from one counter on, by a key of each length.
const (
	publishedCounter = "f0f1f2f3f4f5f6f7f8f9fafbfcfdfeff"
	publishedText    = "6bc1bee22e409f96e93d7e117393172aae2d8a571e03ac9c9eb76fac45af8e5130c81c46a35ce411e5fbc1191a0a52eff69f2445df4f9b17ad2b417be66c3710"
)

var published = []struct{ key, hidden string }{
	{"2b7e151628aed2a6abf7158809cf4f3c", "874d6191b620e3261bef6864990db6ce9806f66b7970fdff8617187bb9fffdff5ae4df3edbd5d35e5b4f09020db03eab1e031dda2fbe03d1792170a0f3009cee"},
	{"603deb1015ca71be2b73aef0857d77811f352c073b6108d72d9810a30914dff4", "601ec313775789a5b7a7f504bbf3d228f443e3ca4d62b59aca84e990cacaf5c52b0930daa23de94ce87017ba2d84988ddfc9c58db67aada613c2dd08457941a6"},
}

func unhex(t *testing.T, digits string) string {
	t.Helper()
	b, err := hex.DecodeString(digits)
	if err != nil {
		t.Fatal(err)
	}
	return string(b)
}

// sample is n bytes of all values, without a short period.
func sample(n int) string {
	b := make([]byte, n)
	rand.New(rand.NewSource(int64(n) + 5)).Read(b)
	return string(b)
}

// keys are of both lengths: drawn, of noughts, of 255s, and of eight and sixteen letters of two bytes each.
func keys() []string {
	var out []string
	for _, n := range []int{16, 32} {
		out = append(out, sample(n), strings.Repeat("\x00", n), strings.Repeat("\xff", n), strings.Repeat("ä", n/2))
	}
	return out
}

// firsts are counters of all kinds; blocks by some of them carry over one byte, many, or all.
func firsts() []string {
	return []string{
		zeros,
		most,
		sample(16),
		strings.Repeat("ä", 8),
		zeros[:15] + "\xff",
		zeros[:14] + "\xff\xfe",
		zeros[:8] + most[:8],
		most[:8] + zeros[:8],
		most[:15] + "\xfd",
		"\x7f" + most[:15],
		"\xf0" + zeros[:12] + most[:3],
	}
}

func wrongKeys() []string {
	out := []string{strings.Repeat("ä", 16) + "k", strings.Repeat("ä", 12) + "kkkk", strings.Repeat("k", 1<<16), strings.Repeat("k", 1<<17)}
	for _, n := range []int{0, 1, 8, 15, 17, 20, 24, 31, 33, 48, 64, 1000} {
		out = append(out, strings.Repeat("k", n))
	}
	return out
}

// wrongCounters are of other lengths; one of them has 16 letters, but more bytes.
func wrongCounters() []string {
	out := []string{strings.Repeat("ä", 16), strings.Repeat("c", 1<<16)}
	for _, n := range []int{0, 1, 4, 8, 12, 15, 17, 24, 32} {
		out = append(out, strings.Repeat("\x00", n))
	}
	return out
}

func next(t *testing.T, counter string, n int) string {
	t.Helper()
	s, e := stream.Next(counter, n)
	if e != api.OK || len(s) != 16 {
		t.Fatalf("Next of %x, %d: %x, error %d", counter, n, s, e)
	}
	return s
}

func keysOf(t *testing.T, key, counter string, n int) string {
	t.Helper()
	s, e := stream.Keys(key, counter, n)
	if e != api.OK || len(s) != n {
		t.Fatalf("Keys of %x, %x, %d: %d bytes, error %d", key, counter, n, len(s), e)
	}
	return s
}

func xor(t *testing.T, key, counter, s string) string {
	t.Helper()
	out, e := stream.Xor(key, counter, s)
	if e != api.OK || len(out) != len(s) {
		t.Fatalf("Xor of %x, %x and %d bytes: %d bytes, error %d", key, counter, len(s), len(out), e)
	}
	return out
}

// longNext is the number of a counter, put more by n, modulo 2^128, by numbers without an end.
func longNext(counter string, n int) string {
	number := new(big.Int).SetBytes([]byte(counter))
	number.Add(number, big.NewInt(int64(n)))
	number.Mod(number, new(big.Int).Lsh(big.NewInt(1), 128))
	return string(number.FillBytes(make([]byte, 16)))
}

// libraryXor is the library's counter mode.
func libraryXor(t *testing.T, key, counter, s string) string {
	t.Helper()
	block, err := libaes.NewCipher([]byte(key))
	if err != nil {
		t.Fatal(err)
	}
	out := make([]byte, len(s))
	cipher.NewCTR(block, []byte(counter)).XORKeyStream(out, []byte(s))
	return string(out)
}

// E1

func TestNextKnown(t *testing.T) {
	for _, x := range []struct {
		counter string
		n       int
		want    string
	}{
		{most, 2, zeros[:15] + "\x01"}, // the chapter's example
		{most, 1, zeros},
		{most, 0, most},
		{zeros, 0, zeros},
		{zeros, 1, zeros[:15] + "\x01"},
		{zeros, 255, zeros[:15] + "\xff"},
		{zeros, 256, zeros[:14] + "\x01\x00"},
		{zeros, 258, zeros[:14] + "\x01\x02"},
		{zeros[:15] + "\xff", 1, zeros[:14] + "\x01\x00"},
		{zeros[:8] + most[:8], 1, zeros[:7] + "\x01" + zeros[:8]},
		{"\x7f" + most[:15], 1, "\x80" + zeros[:15]},
		{zeros, mostFurther - 1, zeros[:11] + most[:5]},
		{zeros, mostFurther, zeros[:10] + "\x01" + zeros[:5]},
		{most, mostFurther, zeros[:11] + most[:5]},
	} {
		if got := next(t, x.counter, x.n); got != x.want {
			t.Errorf("%x, %d: %x, want %x", x.counter, x.n, got, x.want)
		}
	}
}

func TestNextByNumbers(t *testing.T) {
	steps := []int{0, 1, 2, 127, 128, 255, 256, 257, 65535, 65536, 1<<31 - 1, 1 << 31, 1<<32 - 1, 1 << 32, mostFurther - 1, mostFurther}
	r := rand.New(rand.NewSource(1))
	for range 200 {
		steps = append(steps, int(r.Int63n(mostFurther+1)))
	}
	for _, counter := range firsts() {
		for _, n := range steps {
			if got, want := next(t, counter, n), longNext(counter, n); got != want {
				t.Errorf("%x, %d: %x, want %x", counter, n, got, want)
			}
		}
	}
}

func TestNextStepByStep(t *testing.T) {
	for _, counter := range firsts() {
		by := counter
		for n := range 600 {
			if got := next(t, counter, n); got != by {
				t.Fatalf("%x, %d: %x, step by step %x", counter, n, got, by)
			}
			by = next(t, by, 1)
		}
	}
}

func TestNextWrong(t *testing.T) {
	wrongSteps := []int{-1, -256, math.MinInt, mostFurther + 1, 1 << 41, math.MaxInt}
	for _, counter := range firsts() {
		for _, n := range wrongSteps {
			if s, e := stream.Next(counter, n); s != "" || e != api.ErrArg {
				t.Errorf("%x, %d: %x, error %d", counter, n, s, e)
			}
		}
	}
	for _, counter := range wrongCounters() {
		for _, n := range append(wrongSteps, 0, 1, mostFurther) {
			if s, e := stream.Next(counter, n); s != "" || e != api.ErrArg {
				t.Errorf("a counter of %d bytes, %d: %x, error %d", len(counter), n, s, e)
			}
		}
	}
}

// E2

func TestKeysAreBlocks(t *testing.T) {
	for _, key := range keys() {
		for _, counter := range firsts() {
			want := ""
			for i := range 5 {
				block, e := aes.Encrypt(key, longNext(counter, i))
				if e != api.OK {
					t.Fatal(e)
				}
				want += block
			}
			for _, n := range []int{0, 1, 15, 16, 17, 31, 32, 33, 79, 80} {
				if got := keysOf(t, key, counter, n); got != want[:n] {
					t.Errorf("%x, %x, %d: %x, want %x", key, counter, n, got, want[:n])
				}
			}
		}
	}
}

// More than 256 blocks: the counter carries wherever it began.
func TestKeysMany(t *testing.T) {
	for _, n := range []int{4095, 4096, 4097, 5000} {
		for _, counter := range []string{zeros, most} {
			key, noughts := sample(16), strings.Repeat("\x00", n)
			if keysOf(t, key, counter, n) != libraryXor(t, key, counter, noughts) {
				t.Errorf("from %x on, %d: not the library's", counter, n)
			}
		}
	}
}

func TestKeysMost(t *testing.T) {
	for _, n := range []int{api.MaxText - 1, api.MaxText} {
		key, counter := sample(32), "\xf0"+most[:15]
		if keysOf(t, key, counter, n) != libraryXor(t, key, counter, strings.Repeat("\x00", n)) {
			t.Errorf("%d: not the library's", n)
		}
	}
}

func TestKeysWrong(t *testing.T) {
	refused := func(key, counter string, n int) {
		t.Helper()
		if s, e := stream.Keys(key, counter, n); s != "" || e != api.ErrArg {
			t.Errorf("a key of %d bytes, a counter of %d, %d: %d bytes, error %d", len(key), len(counter), n, len(s), e)
		}
	}
	wrongMany := []int{-1, -16, math.MinInt, api.MaxText + 1, api.MaxText + 16, math.MaxInt}
	for _, n := range append(wrongMany, 0, 1, 16, api.MaxText) {
		for _, key := range wrongKeys() {
			refused(key, zeros, n)
			refused(key, zeros[1:], n)
		}
		for _, counter := range wrongCounters() {
			refused(sample(16), counter, n)
			refused(sample(32), counter, n)
		}
	}
	for _, n := range wrongMany {
		refused(sample(16), zeros, n)
		refused(sample(32), most, n)
	}
}

// E3

func TestXorPublished(t *testing.T) {
	counter, text := unhex(t, publishedCounter), unhex(t, publishedText)
	for _, x := range published {
		key, want := unhex(t, x.key), unhex(t, x.hidden)
		for n := range len(text) + 1 {
			if got := xor(t, key, counter, text[:n]); got != want[:n] {
				t.Errorf("%s, %d bytes: %x, want %x", x.key, n, got, want[:n])
			}
		}
	}
}

func TestXorIsTextAndKeys(t *testing.T) {
	for _, key := range keys() {
		for _, counter := range firsts() {
			for _, n := range []int{0, 1, 15, 16, 17, 47, 48, 49} {
				text := sample(n)
				got, with := xor(t, key, counter, text), keysOf(t, key, counter, n)
				for i := range n {
					if got[i] != text[i]^with[i] {
						t.Fatalf("%x, %x, byte %d of %d: %d, want %d", key, counter, i, n, got[i], text[i]^with[i])
					}
				}
				if want := libraryXor(t, key, counter, text); got != want {
					t.Errorf("%x, %x, %d bytes: %x, want %x", key, counter, n, got, want)
				}
			}
		}
	}
}

func TestXorEdgeTexts(t *testing.T) {
	key, counter := sample(32), sample(16)
	for _, text := range []string{strings.Repeat("\x00", 40), strings.Repeat("\xff", 40), strings.Repeat("ä", 20), "\xff\xfe not letters \x80", keysOf(t, key, counter, 40)} {
		if got, want := xor(t, key, counter, text), libraryXor(t, key, counter, text); got != want {
			t.Errorf("%x: %x, want %x", text, got, want)
		}
	}
}

func TestXorLongest(t *testing.T) {
	for _, n := range []int{api.MaxText - 1, api.MaxText} {
		key, text := sample(16), sample(n)
		if xor(t, key, most, text) != libraryXor(t, key, most, text) {
			t.Errorf("%d bytes: not the library's", n)
		}
	}
}

func TestXorLong(t *testing.T) {
	for _, n := range []int{api.MaxText + 1, api.MaxText + 16, 2 * api.MaxText, api.MaxBytes + 1} {
		for _, key := range keys() {
			if s, e := stream.Xor(key, zeros, sample(n)); s != "" || e != api.ErrLong {
				t.Errorf("a key of %d bytes, a text of %d: %d bytes, error %d", len(key), n, len(s), e)
			}
		}
	}
	// It is bytes that count, not letters.
	if s, e := stream.Xor(sample(16), zeros, strings.Repeat("ä", api.MaxText/2)+"a"); s != "" || e != api.ErrLong {
		t.Errorf("letters of two bytes: %d bytes, error %d", len(s), e)
	}
}

// A text that is too long besides: ErrArg is named first.
func TestXorWrong(t *testing.T) {
	refused := func(key, counter, text string) {
		t.Helper()
		if s, e := stream.Xor(key, counter, text); s != "" || e != api.ErrArg {
			t.Errorf("a key of %d bytes, a counter of %d, a text of %d: %d bytes, error %d", len(key), len(counter), len(text), len(s), e)
		}
	}
	for _, n := range []int{0, 1, 16, api.MaxText, api.MaxText + 1, 2 * api.MaxText} {
		text := sample(n)
		for _, key := range wrongKeys() {
			refused(key, zeros, text)
			refused(key, zeros[1:], text)
		}
		for _, counter := range wrongCounters() {
			refused(sample(16), counter, text)
			refused(sample(32), counter, text)
		}
	}
}

// E4

func TestXorUndoesItself(t *testing.T) {
	for _, key := range keys() {
		for _, counter := range firsts() {
			for _, n := range []int{0, 1, 16, 33, 100} {
				text := sample(n)
				if got := xor(t, key, counter, xor(t, key, counter, text)); got != text {
					t.Errorf("%x, %x, %d bytes: %x, want %x", key, counter, n, got, text)
				}
			}
		}
	}
	if text := sample(api.MaxText); xor(t, sample(32), most, xor(t, sample(32), most, text)) != text {
		t.Error("of the longest text: another one")
	}
}

func TestXorInTwoParts(t *testing.T) {
	for _, key := range []string{sample(16), sample(32)} {
		for _, counter := range firsts() {
			for _, n := range []int{0, 1, 16, 17, 64, 75} {
				text := sample(n)
				whole := xor(t, key, counter, text)
				for at := 0; at <= n; at += 16 {
					behind := next(t, counter, at/16)
					if got := xor(t, key, counter, text[:at]) + xor(t, key, behind, text[at:]); got != whole {
						t.Errorf("%x, %x, %d bytes in two at %d: %x, want %x", key, counter, n, at, got, whole)
					}
				}
			}
		}
	}
}

// The second part begins more than 256 blocks behind, where many bytes of the counter carry.
func TestXorInTwoLongParts(t *testing.T) {
	key, text := sample(32), sample(10000)
	for _, counter := range []string{zeros, most, zeros[:8] + most[:8]} {
		whole := xor(t, key, counter, text)
		for _, at := range []int{4080, 4096, 4112, 9984} {
			if xor(t, key, next(t, counter, at/16), text[at:]) != whole[at:] {
				t.Errorf("from %x on, in two at %d: another second part", counter, at)
			}
		}
	}
}

// R4: the same for the same, whatever was asked in between, refused or not, and whoever else asks.

func TestAnswersAgain(t *testing.T) {
	key, other, counter, text := sample(16), sample(32), sample(16), sample(50)
	first := xor(t, key, counter, text)
	for _, between := range []func(){
		func() { xor(t, other, counter, text) },
		func() { xor(t, key, most, text) },
		func() { keysOf(t, key, counter, 50) },
		func() { stream.Xor("k", counter, text) },
		func() { stream.Xor(key, "c", text) },
		func() { stream.Xor(key, counter, sample(api.MaxText+1)) },
		func() { stream.Keys(key, counter, -1) },
	} {
		between()
		if got := xor(t, key, counter, text); got != first {
			t.Errorf("another answer to the same question: %x, ahead of it %x", got, first)
		}
	}
}

func TestAllAtOnce(t *testing.T) {
	var all sync.WaitGroup
	for _, key := range keys() {
		for _, counter := range firsts() {
			want := libraryXor(t, key, counter, sample(40))
			all.Go(func() {
				if got, e := stream.Xor(key, counter, sample(40)); got != want || e != api.OK {
					t.Errorf("%x, %x: %x, error %d", key, counter, got, e)
				}
			})
		}
	}
	all.Wait()
}
