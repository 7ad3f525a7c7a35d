package aes_test

import (
	cipher "crypto/aes"
	"encoding/hex"
	"math/rand"
	"strings"
	"sync"
	"testing"

	"columbarium/aes"
	"columbarium/api"
	"columbarium/field"
)

// What FIPS 197 prints of two keys: all their round keys, one a line.
const shortRoundKeys = `
2b7e151628aed2a6abf7158809cf4f3c
a0fafe1788542cb123a339392a6c7605
f2c295f27a96b9435935807a7359f67f
3d80477d4716fe3e1e237e446d7a883b
ef44a541a8525b7fb671253bdb0bad00
d4d1c6f87c839d87caf2b8bc11f915bc
6d88a37a110b3efddbf98641ca0093fd
4e54f70e5f5fc9f384a64fb24ea6dc4f
ead27321b58dbad2312bf5607f8d292f
ac7766f319fadc2128d12941575c006e
d014f9a8c9ee2589e13f0cc8b6630ca6`

const longRoundKeys = `
603deb1015ca71be2b73aef0857d7781
1f352c073b6108d72d9810a30914dff4
9ba354118e6925afa51a8b5f2067fcde
a8b09c1a93d194cdbe49846eb75d5b9a
d59aecb85bf3c917fee94248de8ebe96
b5a9328a2678a647983122292f6c79b3
812c81addadf48ba24360af2fab8b464
98c5bfc9bebd198e268c3ba709e04214
68007bacb2df331696e939e46c518d80
c814e20476a9fb8a5025c02d59c58239
de1369676ccc5a71fa2563959674ee15
5886ca5d2e2f31d77e0af1fa27cf73c3
749c47ab18501ddae2757e4f7401905a
cafaaae3e4d59b349adf6acebd10190d
fe4890d1e6188d0b046df344706c631e`

// known are a key, a block, and what it is encrypted to, as published.
var known = [][3]string{
	// FIPS 197; the first one is the chapter's example.
	{"000102030405060708090a0b0c0d0e0f", "00112233445566778899aabbccddeeff", "69c4e0d86a7b0430d8cdb78070b4c55a"},
	{"000102030405060708090a0b0c0d0e0f101112131415161718191a1b1c1d1e1f", "00112233445566778899aabbccddeeff", "8ea2b7ca516745bfeafc49904b496089"},
	{"2b7e151628aed2a6abf7158809cf4f3c", "3243f6a8885a308d313198a2e0370734", "3925841d02dc09fbdc118597196a0b32"},
	// SP 800-38A
	{"2b7e151628aed2a6abf7158809cf4f3c", "6bc1bee22e409f96e93d7e117393172a", "3ad77bb40d7a3660a89ecaf32466ef97"},
	{"603deb1015ca71be2b73aef0857d77811f352c073b6108d72d9810a30914dff4", "6bc1bee22e409f96e93d7e117393172a", "f3eed1bdb5d2a03c064b5a7e3db181f8"},
	// Noughts by noughts
	{strings.Repeat("00", 16), strings.Repeat("00", 16), "66e94bd4ef8a2c3b884cfa59ca342b2e"},
	{strings.Repeat("00", 32), strings.Repeat("00", 16), "dc95c078a2408989ad48a21492842087"},
}

func unhex(t *testing.T, digits string) string {
	t.Helper()
	b, err := hex.DecodeString(strings.ReplaceAll(digits, "\n", ""))
	if err != nil {
		t.Fatal(err)
	}
	return string(b)
}

func drawn(r *rand.Rand, n int) string {
	b := make([]byte, n)
	r.Read(b)
	return string(b)
}

// keys are of both lengths: of noughts, of 255s, of letters of two bytes each, and drawn.
func keys() []string {
	r := rand.New(rand.NewSource(4))
	var out []string
	for _, n := range []int{16, 32} {
		out = append(out, strings.Repeat("\x00", n), strings.Repeat("\xff", n), strings.Repeat("ä", n/2))
		for range 20 {
			out = append(out, drawn(r, n))
		}
	}
	return out
}

// blocks are of noughts, of 255s, of digits, of letters of two bytes each, of noughts but for one byte, and drawn.
func blocks() []string {
	r := rand.New(rand.NewSource(5))
	out := []string{
		strings.Repeat("\x00", 16), strings.Repeat("\xff", 16), "0123456789abcdef", strings.Repeat("ä", 8),
	}
	for i := range 16 {
		b := make([]byte, 16)
		b[i] = byte(i + 1)
		out = append(out, string(b))
	}
	for range 10 {
		out = append(out, drawn(r, 16))
	}
	return out
}

// wrongKeys are of all lengths near those that may be, and of those of other ciphers; one of them has 16 letters, but more bytes.
func wrongKeys() []string {
	out := []string{strings.Repeat("k", 1000), strings.Repeat("k", 1<<16), strings.Repeat("ä", 15) + "k"}
	for _, n := range []int{0, 1, 4, 8, 12, 15, 17, 20, 24, 28, 31, 33, 48, 64} {
		out = append(out, strings.Repeat("k", n))
	}
	return out
}

func wrongBlocks() []string {
	out := []string{strings.Repeat("b", 1<<16), strings.Repeat("ä", 16)}
	for _, n := range []int{0, 1, 4, 8, 15, 17, 24, 31, 32, 33, 64} {
		out = append(out, strings.Repeat("b", n))
	}
	return out
}

func expand(t *testing.T, key string) string {
	t.Helper()
	s, e := aes.Expand(key)
	if e != api.OK {
		t.Fatalf("Expand of %x: error %d", key, e)
	}
	return s
}

func encrypt(t *testing.T, key, block string) string {
	t.Helper()
	s, e := aes.Encrypt(key, block)
	if e != api.OK || len(s) != 16 {
		t.Fatalf("Encrypt of %x by %x: %x, error %d", block, key, s, e)
	}
	return s
}

func decrypt(t *testing.T, key, block string) string {
	t.Helper()
	s, e := aes.Decrypt(key, block)
	if e != api.OK || len(s) != 16 {
		t.Fatalf("Decrypt of %x by %x: %x, error %d", block, key, s, e)
	}
	return s
}

// longExpand is the round keys, word by word as the promise says it.
func longExpand(key string) string {
	n := len(key) / 4
	words := 44
	if n == 8 {
		words = 60
	}
	w := []byte(key)
	c := byte(1)
	for i := n; i < words; i++ {
		t := []byte{w[4*i-4], w[4*i-3], w[4*i-2], w[4*i-1]}
		if i%n == 0 {
			t = []byte{field.Sub(t[1]) ^ c, field.Sub(t[2]), field.Sub(t[3]), field.Sub(t[0])}
			c = field.Mul(2, c)
		}
		if n == 8 && i%8 == 4 {
			t = []byte{field.Sub(t[0]), field.Sub(t[1]), field.Sub(t[2]), field.Sub(t[3])}
		}
		for k := range 4 {
			w = append(w, w[4*(i-n)+k]^t[k])
		}
	}
	return string(w)
}

// longEncrypt is the steps of the promise on sixteen bytes, of which byte r of column c is the one at 4c + r.
func longEncrypt(roundKeys, block string) string {
	b := []byte(block)
	rounds := len(roundKeys)/16 - 1
	for round := range rounds + 1 {
		if round > 0 {
			var next [16]byte
			for c := range 4 {
				for r := range 4 {
					next[4*c+r] = field.Sub(b[4*((c+r)%4)+r])
				}
			}
			b = next[:]
		}
		if round > 0 && round < rounds {
			for c := 0; c < 16; c += 4 {
				m := field.Mix([4]byte(b[c : c+4]))
				copy(b[c:], m[:])
			}
		}
		for i := range b {
			b[i] ^= roundKeys[16*round+i]
		}
	}
	return string(b)
}

// D1

func TestExpandPublished(t *testing.T) {
	for _, all := range []string{unhex(t, shortRoundKeys), unhex(t, longRoundKeys)} {
		key := all[:16]
		if len(all) == 240 {
			key = all[:32]
		}
		got := expand(t, key)
		if len(got) != len(all) {
			t.Fatalf("%d bytes, want %d", len(got), len(all))
		}
		for at := 0; at < len(all); at += 16 {
			if got[at:at+16] != all[at:at+16] {
				t.Errorf("round key %d of %x: %x, want %x", at/16, key, got[at:at+16], all[at:at+16])
			}
		}
	}
}

func TestExpandWordByWord(t *testing.T) {
	for _, key := range keys() {
		got := expand(t, key)
		if want := longExpand(key); got != want {
			t.Errorf("of %x: %x, want %x", key, got, want)
		}
	}
}

func TestExpandLength(t *testing.T) {
	for _, key := range keys() {
		want := 11 * 16
		if len(key) == 32 {
			want = 15 * 16
		}
		if got := expand(t, key); len(got) != want || !strings.HasPrefix(got, key) {
			t.Errorf("of %x: %d bytes, want %d, the key's first: %x", key, len(got), want, got)
		}
	}
}

func TestExpandWrong(t *testing.T) {
	for _, key := range wrongKeys() {
		if s, e := aes.Expand(key); s != "" || e != api.ErrArg {
			t.Errorf("of %d bytes: %x, error %d", len(key), s, e)
		}
	}
}

// D2

func TestEncryptPublished(t *testing.T) {
	for _, x := range known {
		if got := encrypt(t, unhex(t, x[0]), unhex(t, x[1])); got != unhex(t, x[2]) {
			t.Errorf("%s by %s: %x, want %s", x[1], x[0], got, x[2])
		}
	}
}

func TestEncryptRoundByRound(t *testing.T) {
	for _, key := range keys() {
		roundKeys := longExpand(key)
		for _, block := range blocks() {
			if got, want := encrypt(t, key, block), longEncrypt(roundKeys, block); got != want {
				t.Fatalf("%x by %x: %x, want %x", block, key, got, want)
			}
		}
	}
}

func TestEncryptAsTheLibrary(t *testing.T) {
	for _, key := range keys() {
		c, err := cipher.NewCipher([]byte(key))
		if err != nil {
			t.Fatal(err)
		}
		for _, block := range blocks() {
			var want [16]byte
			c.Encrypt(want[:], []byte(block))
			if got := encrypt(t, key, block); got != string(want[:]) {
				t.Fatalf("%x by %x: %x, want %x", block, key, got, want)
			}
		}
	}
}

func TestEncryptWrong(t *testing.T) {
	wrong(t, aes.Encrypt)
}

// wrong tries a key that may not be, a block that may not be, and both.
func wrong(t *testing.T, call func(key, block string) (string, api.Errno)) {
	t.Helper()
	for _, key := range wrongKeys() {
		for _, block := range append(wrongBlocks(), strings.Repeat("b", 16)) {
			if s, e := call(key, block); s != "" || e != api.ErrArg {
				t.Errorf("a key of %d bytes, a block of %d: %x, error %d", len(key), len(block), s, e)
			}
		}
	}
	for _, n := range []int{16, 32} {
		for _, block := range wrongBlocks() {
			if s, e := call(strings.Repeat("k", n), block); s != "" || e != api.ErrArg {
				t.Errorf("a key of %d bytes, a block of %d: %x, error %d", n, len(block), s, e)
			}
		}
	}
}

// D3

func TestDecryptPublished(t *testing.T) {
	for _, x := range known {
		if got := decrypt(t, unhex(t, x[0]), unhex(t, x[2])); got != unhex(t, x[1]) {
			t.Errorf("%s by %s: %x, want %s", x[2], x[0], got, x[1])
		}
	}
}

func TestDecryptAsTheLibrary(t *testing.T) {
	for _, key := range keys() {
		c, err := cipher.NewCipher([]byte(key))
		if err != nil {
			t.Fatal(err)
		}
		for _, block := range blocks() {
			var want [16]byte
			c.Decrypt(want[:], []byte(block))
			if got := decrypt(t, key, block); got != string(want[:]) {
				t.Fatalf("%x by %x: %x, want %x", block, key, got, want)
			}
		}
	}
}

func TestDecryptWrong(t *testing.T) {
	wrong(t, aes.Decrypt)
}

// D4

func TestBothWays(t *testing.T) {
	for _, key := range keys() {
		for _, block := range blocks() {
			if got := decrypt(t, key, encrypt(t, key, block)); got != block {
				t.Fatalf("Decrypt of Encrypt of %x by %x: %x", block, key, got)
			}
			if got := encrypt(t, key, decrypt(t, key, block)); got != block {
				t.Fatalf("Encrypt of Decrypt of %x by %x: %x", block, key, got)
			}
		}
	}
}

func TestUnlikeBlocks(t *testing.T) {
	for _, n := range []int{16, 32} {
		key := strings.Repeat("k", n)
		of, from := map[string]string{}, map[string]string{}
		for _, block := range append(oneBitFrom(blocks()[0]), oneBitFrom(blocks()[1])...) {
			s, u := encrypt(t, key, block), decrypt(t, key, block)
			if other, is := of[s]; is {
				t.Errorf("%x and %x are both encrypted to %x", other, block, s)
			}
			if other, is := from[u]; is {
				t.Errorf("%x and %x are both decrypted to %x", other, block, u)
			}
			of[s], from[u] = block, block
		}
	}
}

// oneBitFrom is a block, and all that differ from it in one bit.
func oneBitFrom(block string) []string {
	out := []string{block}
	for i := range 128 {
		b := []byte(block)
		b[i/8] ^= 1 << (i % 8)
		out = append(out, string(b))
	}
	return out
}

// Each bit of a key and of a block counts: some half of the answer's bits change with it.
func TestOneBitChangesMany(t *testing.T) {
	changed := func(a, b string) int {
		many := 0
		for i := range len(a) {
			for x := a[i] ^ b[i]; x != 0; x &= x - 1 {
				many++
			}
		}
		return many
	}
	key, block := strings.Repeat("k", 32), strings.Repeat("b", 16)
	first := encrypt(t, key, block)
	for _, other := range oneBitFrom(block)[1:] {
		if many := changed(first, encrypt(t, key, other)); many < 30 {
			t.Errorf("%x: %d bits changed", other, many)
		}
	}
	for i := range 8 * len(key) {
		k := []byte(key)
		k[i/8] ^= 1 << (i % 8)
		if many := changed(first, encrypt(t, string(k), block)); many < 30 {
			t.Errorf("bit %d of the key: %d bits changed", i, many)
		}
	}
}

// R4: what is made once is a key's own, whatever keys come between, and whoever else calls.

func TestKeysByTurns(t *testing.T) {
	for range 3 {
		for _, x := range known {
			key, block := unhex(t, x[0]), unhex(t, x[1])
			if _, e := aes.Encrypt(key, block[1:]); e != api.ErrArg {
				t.Fatal(e)
			}
			if got := expand(t, key); got != longExpand(key) {
				t.Errorf("Expand of %s: %x", x[0], got)
			}
			if got := encrypt(t, key, block); got != unhex(t, x[2]) {
				t.Errorf("%s by %s: %x, want %s", x[1], x[0], got, x[2])
			}
		}
	}
}

func TestAllAtOnce(t *testing.T) {
	var all sync.WaitGroup
	for _, x := range known {
		key, block, want := unhex(t, x[0]), unhex(t, x[1]), unhex(t, x[2])
		for range 8 {
			all.Go(func() {
				got, e := aes.Encrypt(key, block)
				back, f := aes.Decrypt(key, want)
				if got != want || back != block || e != api.OK || f != api.OK {
					t.Errorf("%x by %x: %x, error %d; back %x, error %d", block, key, got, e, back, f)
				}
			})
		}
	}
	all.Wait()
}

func BenchmarkEncrypt(b *testing.B) {
	key, block := strings.Repeat("k", 32), strings.Repeat("b", 16)
	for b.Loop() {
		aes.Encrypt(key, block)
	}
}
