package mac_test

import (
	"crypto/hkdf"
	"crypto/hmac"
	"crypto/sha256"
	"encoding/hex"
	"math"
	"math/rand"
	"strings"
	"sync"
	"testing"

	"columbarium/api"
	"columbarium/mac"
)

const maxTagged = 1<<20 - 64

// sample is n bytes of all values, without a short period.
func sample(n int) string {
	b := make([]byte, n)
	rand.New(rand.NewSource(int64(n) + 1)).Read(b)
	return string(b)
}

func libraryMac(key, s string) string {
	h := hmac.New(sha256.New, []byte(key))
	h.Write([]byte(s))
	return string(h.Sum(nil))
}

func libraryDerive(t *testing.T, key, name string, n int) string {
	t.Helper()
	out, err := hkdf.Expand(sha256.New, []byte(key), name, n)
	if err != nil {
		t.Fatal(err)
	}
	return string(out)
}

func tagOf(t *testing.T, key, s string) string {
	t.Helper()
	got, e := mac.Mac(key, s)
	if e != api.OK || len(got) != api.Size {
		t.Fatalf("Mac of a key of %d bytes and a text of %d: %d bytes, error %d", len(key), len(s), len(got), e)
	}
	return got
}

func derive(t *testing.T, key, name string, n int) string {
	t.Helper()
	got, e := mac.Derive(key, name, n)
	if e != api.OK || len(got) != n {
		t.Fatalf("Derive of a key of %d bytes, a name of %d, %d bytes: %d bytes, error %d", len(key), len(name), n, len(got), e)
	}
	return got
}

// B1

func TestMacKnown(t *testing.T) {
	for _, x := range []struct{ key, s, want string }{
		{strings.Repeat("\x0b", 20), "Hi There", "b0344c61d8db38535ca8afceaf0bf12b881dc200c9833da726e9376c2e32cff7"},
		{"Jefe", "what do ya want for nothing?", "5bdcc146bf60754e6a042426089575c75a003f089d2739839dec58b964ec3843"},
		{"", "", "b613679a0814d9ec772f95d778c35fc5ff1697c493715653c6c712144292c5ad"},
	} {
		if got := tagOf(t, x.key, x.s); hex.EncodeToString([]byte(got)) != x.want {
			t.Errorf("%q, %q: %x, want %s", x.key, x.s, got, x.want)
		}
	}
}

func TestMacLengths(t *testing.T) {
	keys := []int{0, 1, 2, 20, 31, 32, 33, 63, 64, 65, 66, 127, 128, 129, 999, 1000}
	texts := []int{0, 1, 8, 31, 32, 33, 55, 56, 63, 64, 65, 119, 120, 127, 128, 129, 1000, 5000}
	for _, k := range keys {
		for _, n := range texts {
			key, s := sample(k), sample(n)
			if got, want := tagOf(t, key, s), libraryMac(key, s); got != want {
				t.Errorf("key of %d bytes, text of %d: %x, want %x", k, n, got, want)
			}
		}
	}
}

func TestMacEdgeBytes(t *testing.T) {
	for _, c := range []string{"\x00", "\x36", "\x5c", "\x6a", "\x80", "\xff"} {
		for _, k := range []int{1, 32, 64, 65, 1000} {
			key, s := strings.Repeat(c, k), strings.Repeat(c, 100)
			if got, want := tagOf(t, key, s), libraryMac(key, s); got != want {
				t.Errorf("key of %d bytes %x: %x, want %x", k, c, got, want)
			}
		}
	}
}

func TestMacLongest(t *testing.T) {
	for _, k := range []int{0, 64, 65, 1000} {
		for _, n := range []int{maxTagged - 1, maxTagged} {
			key, s := sample(k), sample(n)
			if got, want := tagOf(t, key, s), libraryMac(key, s); got != want {
				t.Errorf("key of %d bytes, text of %d: %x, want %x", k, n, got, want)
			}
		}
	}
}

func TestMacLong(t *testing.T) {
	for _, k := range []int{0, 64, 65, 1000} {
		for _, n := range []int{maxTagged + 1, maxTagged + 64, api.MaxBytes + 1, 2 * api.MaxBytes} {
			if got, e := mac.Mac(sample(k), sample(n)); got != "" || e != api.ErrLong {
				t.Errorf("key of %d bytes, text of %d: %x, error %d", k, n, got, e)
			}
		}
	}
}

func TestMacWrongKey(t *testing.T) {
	for _, k := range []int{1001, 1064, 4096, api.MaxBytes + 1} {
		// A text that is too long besides: ErrArg is named first.
		for _, n := range []int{0, 1, 64, maxTagged, maxTagged + 1} {
			if got, e := mac.Mac(sample(k), sample(n)); got != "" || e != api.ErrArg {
				t.Errorf("key of %d bytes, text of %d: %x, error %d", k, n, got, e)
			}
		}
	}
}

// B2

// chain is what is derived, word by word as the promise says it.
func chain(t *testing.T, key, name string, n int) string {
	t.Helper()
	out, ahead := "", ""
	for i := 1; len(out) < n; i++ {
		ahead = tagOf(t, key, ahead+name+string([]byte{byte(i)}))
		out += ahead
	}
	return out[:n]
}

func TestDeriveLengths(t *testing.T) {
	many := []int{0, 1, 2, 31, 32, 33, 63, 64, 65, 95, 96, 97, 1000, 4064, 4065, 4095, 4096}
	for _, k := range []int{0, 1, 32, 63, 64, 65, 1000} {
		for _, m := range []int{0, 1, 31, 32, 64, 1000} {
			key, name := sample(k), sample(m)
			for _, n := range many {
				got, want := derive(t, key, name, n), libraryDerive(t, key, name, n)
				if got != want {
					t.Errorf("key of %d bytes, name of %d, %d bytes: %x, want %x", k, m, n, got, want)
				}
			}
		}
	}
}

func TestDeriveChain(t *testing.T) {
	for _, n := range []int{0, 1, 32, 33, 4096} {
		if got, want := derive(t, "key", "name", n), chain(t, "key", "name", n); got != want {
			t.Errorf("%d bytes: %x, want %x", n, got, want)
		}
	}
}

// The name stands as it is, whatever bytes it has: a byte that looks like a count is part of it.
func TestDeriveNames(t *testing.T) {
	for _, name := range []string{"", "\x00", "\x01", "\x02", "\xff", "a\x01", "\x01a", sample(32)} {
		if got, want := derive(t, "k", name, 100), libraryDerive(t, "k", name, 100); got != want {
			t.Errorf("%q: %x, want %x", name, got, want)
		}
	}
}

func TestDeriveWrong(t *testing.T) {
	for _, x := range []struct{ k, m, n int }{
		{1001, 0, 1},
		{1001, 0, 0},
		{1001, 1000, 4096},
		{0, 1001, 1},
		{0, 1001, 0},
		{1000, 1001, 4096},
		{api.MaxBytes + 1, 0, 1},
		{0, api.MaxBytes + 1, 1},
		{0, 0, -1},
		{32, 4, -32},
		{32, 4, 4097},
		{32, 4, 4128},
		{32, 4, math.MaxInt},
		{32, 4, math.MinInt},
		{1001, 1001, 4097},
		{1001, 1001, -1},
	} {
		if got, e := mac.Derive(sample(x.k), sample(x.m), x.n); got != "" || e != api.ErrArg {
			t.Errorf("key of %d bytes, name of %d, %d bytes: %d bytes, error %d", x.k, x.m, x.n, len(got), e)
		}
	}
}

// B3

func checkSame(t *testing.T, what, a, b string, same bool, many int) {
	t.Helper()
	if is, n := mac.Same(a, b); is != same || n != many {
		t.Errorf("%s: %v, %d; want %v, %d", what, is, n, same, many)
	}
}

func TestSameTexts(t *testing.T) {
	for _, n := range []int{0, 1, 2, 16, 31, 32, 33, 64, 255, 256, 257, 1000, 1 << 16, api.MaxBytes + 1} {
		s := sample(n)
		checkSame(t, "one text", s, s, true, n)
		checkSame(t, "a copy", s, strings.Clone(s), true, n)
	}
}

func TestSameUnlikeLengths(t *testing.T) {
	for _, x := range [][2]string{
		{"", "a"},
		{"", "\x00"},
		{"a", "a\x00"},
		{"abc", "abcd"},
		{"abc", "bc"},
		{"abc", "ab"},
		{sample(32), sample(32)[:31]},
		{sample(256), ""},
		{sample(300), sample(300)[:300-256]},
	} {
		checkSame(t, "unlike lengths", x[0], x[1], false, 0)
		checkSame(t, "unlike lengths", x[1], x[0], false, 0)
	}
}

// One bit that is unlike, at each place: as many bytes are looked at, wherever it is.
func TestSameOneBit(t *testing.T) {
	for _, n := range []int{1, 2, 16, 32, 33, 300} {
		a := sample(n)
		for at := range n {
			for bit := range 8 {
				b := []byte(a)
				b[at] ^= 1 << bit
				checkSame(t, "one bit", a, string(b), false, n)
				checkSame(t, "one bit", string(b), a, false, n)
			}
		}
	}
}

// Two bytes that are unlike by the same bits do not make up for each other.
func TestSameTwoBytes(t *testing.T) {
	for _, n := range []int{2, 32, 100} {
		a := sample(n)
		for mask := 1; mask < 256; mask++ {
			b := []byte(a)
			b[0] ^= byte(mask)
			b[n-1] ^= byte(mask)
			checkSame(t, "two bytes", a, string(b), false, n)
			b = []byte(a)
			b[0] += byte(mask)
			b[n-1] -= byte(mask)
			checkSame(t, "two bytes", a, string(b), false, n)
		}
	}
	checkSame(t, "turned", "ab", "ba", false, 2)
	checkSame(t, "all unlike", strings.Repeat("\x00", 256), strings.Repeat("\xff", 256), false, 256)
}

// The count belongs to one call: calls ahead of it, or at the same time, do not add to it.
func TestSameCountsAlone(t *testing.T) {
	var all sync.WaitGroup
	for n := range 50 {
		all.Go(func() {
			for range 50 {
				checkSame(t, "side by side", sample(n), sample(n), true, n)
			}
		})
	}
	all.Wait()
}

// B4

func TestDeriveBegins(t *testing.T) {
	for _, x := range [][2]string{{"", ""}, {"key", "name"}, {sample(65), sample(1000)}} {
		whole := derive(t, x[0], x[1], api.MaxDerive)
		for n := range 200 {
			if got := derive(t, x[0], x[1], n); got != whole[:n] {
				t.Errorf("%d bytes are not the first of %d", n, api.MaxDerive)
			}
		}
		for n := 256; n <= api.MaxDerive; n += 320 {
			if got := derive(t, x[0], x[1], n); got != whole[:n] {
				t.Errorf("%d bytes are not the first of %d", n, api.MaxDerive)
			}
		}
	}
}

func TestNoughtsBehindKey(t *testing.T) {
	for _, k := range []int{0, 1, 32, 63, 64} {
		key := sample(k)
		want, bytes := tagOf(t, key, "text"), derive(t, key, "name", 40)
		for n := k; n <= 64; n++ {
			long := key + strings.Repeat("\x00", n-k)
			if tagOf(t, long, "text") != want || derive(t, long, "name", 40) != bytes {
				t.Errorf("key of %d bytes, with noughts up to %d: another tag", k, n)
			}
		}
		over := key + strings.Repeat("\x00", 65-k)
		if tagOf(t, over, "text") == want {
			t.Errorf("key of %d bytes, with noughts up to 65: the same tag", k)
		}
	}
}

// R4: the same for the same, whatever was asked in between.
func TestAnswersAgain(t *testing.T) {
	first, bytes := tagOf(t, "key", "text"), derive(t, "key", "name", 100)
	tagOf(t, "another key", "another text")
	derive(t, "another key", "another name", 4096)
	mac.Mac(sample(1001), "")
	mac.Derive("", "", -1)
	if tagOf(t, "key", "text") != first || derive(t, "key", "name", 100) != bytes {
		t.Error("another answer to the same question")
	}
}
