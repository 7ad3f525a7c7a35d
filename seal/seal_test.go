package seal_test

import (
	libaes "crypto/aes"
	"crypto/cipher"
	"crypto/hkdf"
	"crypto/hmac"
	"crypto/sha256"
	"encoding/binary"
	"encoding/hex"
	"math/rand"
	"strings"
	"sync"
	"testing"

	"columbarium/api"
	"columbarium/mac"
	"columbarium/seal"
	"columbarium/stream"
)

const maxBox = api.MaxText + api.TagSize

// sample is n bytes of all values, without a short period.
func sample(n int) string {
	b := make([]byte, n)
	rand.New(rand.NewSource(int64(n) + 6)).Read(b)
	return string(b)
}

var key, nonce = sample(32), sample(16)

// keys are drawn, of noughts, of 255s, and of sixteen letters of two bytes each.
func keys() []string {
	return []string{key, strings.Repeat("\x00", 32), strings.Repeat("\xff", 32), strings.Repeat("ä", 16)}
}

// nonces are so too; blocks by some of them carry over many bytes of the counter, or all.
func nonces() []string {
	noughts, most := strings.Repeat("\x00", 16), strings.Repeat("\xff", 16)
	return []string{nonce, noughts, most, noughts[:8] + most[:8], strings.Repeat("ä", 8)}
}

// withs end at both sides of where their length takes another byte, and at the greatest one.
func withs() []string {
	return []string{"", "w", "with", "\x00", strings.Repeat("\x00", 16), sample(255), sample(256), sample(257), sample(api.MaxWith - 1), sample(api.MaxWith)}
}

func texts() []string {
	out := []string{strings.Repeat("\x00", 24), strings.Repeat("\xff", 24), strings.Repeat("ä", 20), "\xff\xfe no letters \x80"}
	for _, n := range []int{0, 1, 15, 16, 17, 31, 32, 33, 100, 255, 256, 257} {
		out = append(out, sample(n))
	}
	return out
}

// wrongKeys are of other lengths, those of other keys of layers below among them; one has 32 letters, but more bytes.
func wrongKeys() []string {
	out := []string{strings.Repeat("ä", 32)}
	for _, n := range []int{0, 1, 16, 24, 31, 33, 48, 64, 65, 1000, 1001, 1 << 16} {
		out = append(out, strings.Repeat("k", n))
	}
	return out
}

func wrongNonces() []string {
	out := []string{strings.Repeat("ä", 16)}
	for _, n := range []int{0, 1, 8, 12, 15, 17, 24, 32, 1 << 16} {
		out = append(out, strings.Repeat("n", n))
	}
	return out
}

func wrongWiths() []string {
	return []string{sample(api.MaxWith + 1), sample(api.MaxWith + 16), sample(api.MaxText), sample(api.MaxBytes + 1), strings.Repeat("ä", api.MaxWith/2) + "w"}
}

func keysOf(t *testing.T, key string) (string, string) {
	t.Helper()
	a, b, e := seal.Keys(key)
	if e != api.OK || len(a) != 32 || len(b) != 32 {
		t.Fatalf("Keys of %x: %x, %x, error %d", key, a, b, e)
	}
	return a, b
}

func sealed(t *testing.T, key, nonce, with, text string) string {
	t.Helper()
	box, e := seal.Seal(key, nonce, with, text)
	if e != api.OK || len(box) != len(text)+16 {
		t.Fatalf("Seal by %x, %x, along with %d bytes, of %d: %d bytes, error %d", key, nonce, len(with), len(text), len(box), e)
	}
	return box
}

func opens(t *testing.T, key, nonce, with, box, want string) {
	t.Helper()
	if text, e := seal.Open(key, nonce, with, box); text != want || e != api.OK {
		t.Errorf("Open by %x, %x, along with %d bytes, of %d: %d bytes, error %d", key, nonce, len(with), len(box), len(text), e)
	}
}

func refuses(t *testing.T, what, key, nonce, with, box string, want api.Errno) {
	t.Helper()
	if text, e := seal.Open(key, nonce, with, box); text != "" || e != want {
		t.Errorf("%s: %d bytes, error %d, want %d", what, len(text), e, want)
	}
}

// The same by the library, and by nothing of the project's.

func libraryKey(t *testing.T, key, name string) string {
	t.Helper()
	out, err := hkdf.Expand(sha256.New, []byte(key), name, 32)
	if err != nil {
		t.Fatal(err)
	}
	return string(out)
}

func libraryHidden(t *testing.T, key, nonce, text string) string {
	t.Helper()
	block, err := libaes.NewCipher([]byte(libraryKey(t, key, "stream")))
	if err != nil {
		t.Fatal(err)
	}
	out := make([]byte, len(text))
	cipher.NewCTR(block, []byte(nonce)).XORKeyStream(out, []byte(text))
	return string(out)
}

func libraryTag(t *testing.T, key, nonce, with, hidden string) string {
	t.Helper()
	h := hmac.New(sha256.New, []byte(libraryKey(t, key, "tag")))
	for _, x := range []string{nonce, with, hidden} {
		h.Write(binary.BigEndian.AppendUint32(nil, uint32(len(x))))
		h.Write([]byte(x))
	}
	return string(h.Sum(nil)[:16])
}

func libraryBox(t *testing.T, key, nonce, with, text string) string {
	t.Helper()
	hidden := libraryHidden(t, key, nonce, text)
	return hidden + libraryTag(t, key, nonce, with, hidden)
}

// known are boxes that openssl's counter mode, and another HMAC, made.
var known = []struct{ with, text, box string }{
	{"", "", "cb9eb9038f7d7d4e7cfc0babc9e67d84"},
	{"with", "some text of more than sixteen bytes", "269b0ddc521ee4290915b46add0e547fad1f42be235fbd3fae83576075b00ba72d058d3805dc976278f4141b5fcc696ea678bb7e"},
	{strings.Repeat("\x00", api.MaxWith), strings.Repeat("x", 40), "2d8c18c10a12f929054da374851b4375b0474eae3a49e534bf835b7d68a653bd2c099033917e1a0bdb4bd4c6fd49f81f4e22c6a342541818"},
	{"", strings.Repeat("\x00", 24), "55f460b9726a81517d35db0cfd633b0dc83f36d642319d4c7a9a315da56b9648ee1522213df19426"},
}

const (
	knownKey       = "000102030405060708090a0b0c0d0e0f101112131415161718191a1b1c1d1e1f"
	knownNonce     = "f0f1f2f3f4f5f6f7f8f9fafbfcfdfeff"
	knownStreamKey = "fe0876101ce3e3297bd5204c4d4a9420e0dd37b0e46bf6f976cc8ad5346fd021"
	knownTagKey    = "4bc5d4feaa1a20c430596dae357fd815dbe4333054ea8465bfa1d8796b57037b"
)

func unhex(t *testing.T, digits string) string {
	t.Helper()
	b, err := hex.DecodeString(digits)
	if err != nil {
		t.Fatal(err)
	}
	return string(b)
}

// F1

func TestKeysKnown(t *testing.T) {
	a, b := keysOf(t, unhex(t, knownKey))
	if a != unhex(t, knownStreamKey) || b != unhex(t, knownTagKey) {
		t.Errorf("%x, %x", a, b)
	}
}

func TestKeysAreDerived(t *testing.T) {
	for _, key := range keys() {
		first, e := mac.Derive(key, "stream", 32)
		if e != api.OK {
			t.Fatal(e)
		}
		second, e := mac.Derive(key, "tag", 32)
		if e != api.OK {
			t.Fatal(e)
		}
		a, b := keysOf(t, key)
		if a != first || b != second {
			t.Errorf("%x: %x, %x, want %x, %x", key, a, b, first, second)
		}
		if a != libraryKey(t, key, "stream") || b != libraryKey(t, key, "tag") {
			t.Errorf("%x: %x, %x: not the library's", key, a, b)
		}
	}
}

func TestKeysWrong(t *testing.T) {
	for _, wrong := range wrongKeys() {
		if a, b, e := seal.Keys(wrong); a != "" || b != "" || e != api.ErrArg {
			t.Errorf("a key of %d bytes: %x, %x, error %d", len(wrong), a, b, e)
		}
	}
}

// F2

func TestSealKnown(t *testing.T) {
	key, nonce := unhex(t, knownKey), unhex(t, knownNonce)
	for _, x := range known {
		if got := sealed(t, key, nonce, x.with, x.text); got != unhex(t, x.box) {
			t.Errorf("along with %d bytes, of %q: %x, want %s", len(x.with), x.text, got, x.box)
		}
	}
}

func TestSealIsHiddenAndTag(t *testing.T) {
	for _, key := range keys() {
		for _, nonce := range nonces() {
			for _, text := range texts() {
				got, want := sealed(t, key, nonce, "with", text), libraryBox(t, key, nonce, "with", text)
				if got != want {
					t.Errorf("%x, %x, %x: %x, want %x", key, nonce, text, got, want)
				}
			}
		}
	}
}

func TestSealByLayersBelow(t *testing.T) {
	first, second := keysOf(t, key)
	hidden, e := stream.Xor(first, nonce, "some text")
	if e != api.OK {
		t.Fatal(e)
	}
	tag, e := mac.Mac(second, "\x00\x00\x00\x10"+nonce+"\x00\x00\x00\x03abc\x00\x00\x00\x09"+hidden)
	if e != api.OK {
		t.Fatal(e)
	}
	if got := sealed(t, key, nonce, "abc", "some text"); got != hidden+tag[:16] {
		t.Errorf("%x, want %x", got, hidden+tag[:16])
	}
}

func TestSealAlongWith(t *testing.T) {
	for _, with := range withs() {
		for _, text := range []string{"", "x", sample(40)} {
			got, want := sealed(t, key, nonce, with, text), libraryBox(t, key, nonce, with, text)
			if got != want {
				t.Errorf("along with %d bytes, of %d: %x, want %x", len(with), len(text), got, want)
			}
		}
	}
}

// The greatest text's length is the least that takes three bytes.
func TestSealLongest(t *testing.T) {
	for _, n := range []int{api.MaxText - 1, api.MaxText} {
		text, with := sample(n), sample(api.MaxWith)
		if box := sealed(t, key, nonce, with, text); box != libraryBox(t, key, nonce, with, text) {
			t.Errorf("of %d bytes: not the library's", n)
		}
	}
}

func TestSealLong(t *testing.T) {
	for _, n := range []int{api.MaxText + 1, maxBox, 2 * api.MaxText, api.MaxBytes + 1} {
		for _, with := range []string{"", sample(api.MaxWith)} {
			if box, e := seal.Seal(key, nonce, with, sample(n)); box != "" || e != api.ErrLong {
				t.Errorf("of %d bytes: %d bytes, error %d", n, len(box), e)
			}
		}
	}
	// It is bytes that count, not letters.
	if box, e := seal.Seal(key, nonce, "", strings.Repeat("ä", api.MaxText/2)+"a"); box != "" || e != api.ErrLong {
		t.Errorf("of letters of two bytes: %d bytes, error %d", len(box), e)
	}
}

// wrongArgs tells each call whose key, nonce, or text along may not be, alone or all at once.
func wrongArgs(call func(key, nonce, with string)) {
	for _, wrong := range wrongKeys() {
		call(wrong, nonce, "with")
		call(wrong, nonce[1:], sample(api.MaxWith+1))
	}
	for _, wrong := range wrongNonces() {
		call(key, wrong, "with")
	}
	for _, wrong := range wrongWiths() {
		call(key, nonce, wrong)
	}
	// Together they have as many bytes as they should.
	call(key+"n", nonce[1:], "")
	call(key[1:], nonce+"k", "")
}

// A text that is too long besides: ErrArg is named first.
func TestSealWrong(t *testing.T) {
	for _, text := range []string{"", "text", sample(api.MaxText), sample(api.MaxText + 1)} {
		wrongArgs(func(key, nonce, with string) {
			if box, e := seal.Seal(key, nonce, with, text); box != "" || e != api.ErrArg {
				t.Errorf("a key of %d bytes, a nonce of %d, along with %d, of %d: %d bytes, error %d", len(key), len(nonce), len(with), len(text), len(box), e)
			}
		})
	}
}

// F3

func TestOpenKnown(t *testing.T) {
	key, nonce := unhex(t, knownKey), unhex(t, knownNonce)
	for _, x := range known {
		opens(t, key, nonce, x.with, unhex(t, x.box), x.text)
	}
}

func TestOpenLibraryBoxes(t *testing.T) {
	for _, key := range keys() {
		for _, nonce := range nonces() {
			for _, text := range texts() {
				opens(t, key, nonce, "with", libraryBox(t, key, nonce, "with", text), text)
			}
		}
	}
	for _, with := range withs() {
		opens(t, key, nonce, with, libraryBox(t, key, nonce, with, "text"), "text")
	}
}

func TestOpenShort(t *testing.T) {
	box := sealed(t, key, nonce, "", "")
	for n := range api.TagSize {
		refuses(t, "a short box", key, nonce, "", box[:n], api.ErrShort)
		refuses(t, "a short box", key, nonce, "", strings.Repeat("?", n), api.ErrShort)
		refuses(t, "a short box", key, nonce, sample(api.MaxWith), box[16-n:], api.ErrShort)
	}
	opens(t, key, nonce, "", box, "")
	refuses(t, "another one, just not short", key, nonce, "", strings.Repeat("?", 16), api.ErrTag)
}

// A box that is too long is refused so, whatever its last bytes are.
func TestOpenLong(t *testing.T) {
	for _, n := range []int{maxBox + 1, maxBox + 16, 2 * api.MaxText, api.MaxBytes + 1} {
		refuses(t, "a long box", key, nonce, "", sample(n), api.ErrLong)
	}
	hidden := sample(api.MaxText + 1)
	refuses(t, "a long box, with a right tag", key, nonce, "", hidden+libraryTag(t, key, nonce, "", hidden), api.ErrLong)
	for _, n := range []int{maxBox - 1, maxBox} {
		refuses(t, "just not a long box", key, nonce, "", sample(n), api.ErrTag)
	}
	text := sample(api.MaxText)
	opens(t, key, nonce, "", libraryBox(t, key, nonce, "", text), text)
}

// A box that is too short, too long, or has another tag besides: ErrArg is named first.
func TestOpenWrong(t *testing.T) {
	boxes := []string{"", sample(15), sample(16), sealed(t, key, nonce, "with", "text"), sample(maxBox), sample(maxBox + 1)}
	for _, box := range boxes {
		wrongArgs(func(key, nonce, with string) {
			refuses(t, "wrong arguments", key, nonce, with, box, api.ErrArg)
		})
	}
}

// Each bit of a box, and of all that it hangs on, makes it another one.
func TestOpenOneBit(t *testing.T) {
	with := "with"
	for _, text := range []string{"", "x", sample(24)} {
		box := sealed(t, key, nonce, with, text)
		right := []string{key, nonce, with, box}
		for i := range right {
			for at := range len(right[i]) {
				for bit := range 8 {
					x := []string{key, nonce, with, box}
					b := []byte(x[i])
					b[at] ^= 1 << bit
					x[i] = string(b)
					refuses(t, "one bit", x[0], x[1], x[2], x[3], api.ErrTag)
				}
			}
		}
	}
}

// Two bytes of a tag that are unlike by the same bits do not make up for each other.
func TestOpenTwoBytes(t *testing.T) {
	box := sealed(t, key, nonce, "with", "text")
	for at := len(box) - 16; at < len(box)-1; at++ {
		b := []byte(box)
		b[at] ^= 0x55
		b[at+1] ^= 0x55
		refuses(t, "two bytes", key, nonce, "with", string(b), api.ErrTag)
	}
}

func TestOpenOtherBoxes(t *testing.T) {
	text := sample(40)
	box := sealed(t, key, nonce, "with", text)
	hidden, tag := box[:40], box[40:]
	whole := hmac.New(sha256.New, []byte(libraryKey(t, key, "tag")))
	whole.Write([]byte(nonce + "with" + hidden))
	for _, x := range []struct{ what, box string }{
		{"a byte ahead", "?" + box},
		{"a byte behind", box + "?"},
		{"a nought behind", box + "\x00"},
		{"without the first byte", box[1:]},
		{"without the last byte", box[:len(box)-1]},
		{"the tag alone", tag},
		{"the tag ahead", tag + hidden},
		{"the text as it is", text + tag},
		{"twice", box + box},
		{"the tag of no text", hidden + sealed(t, key, nonce, "with", "")},
		{"the tag of the text as it is", hidden + libraryTag(t, key, nonce, "with", text)},
		{"the tag of no frames", hidden + string(whole.Sum(nil)[:16])},
		{"a tag of noughts", hidden + strings.Repeat("\x00", 16)},
	} {
		refuses(t, x.what, key, nonce, "with", x.box, api.ErrTag)
	}
}

// A byte cannot go from what is along to what is hidden, nor back.
func TestOpenFramesHold(t *testing.T) {
	box := sealed(t, key, nonce, "with", "text")
	refuses(t, "a byte from what is along", key, nonce, "wit", "h"+box, api.ErrTag)
	refuses(t, "a byte to what is along", key, nonce, "with"+box[:1], box[1:], api.ErrTag)
	refuses(t, "along with less", key, nonce, "wit", box, api.ErrTag)
	refuses(t, "along with more", key, nonce, "with\x00", box, api.ErrTag)
	refuses(t, "along with nothing", key, nonce, "", box, api.ErrTag)
	refuses(t, "a nonce turned", key, nonce[1:]+nonce[:1], "with", box, api.ErrTag)
}

// F4

func TestOpenUndoesSeal(t *testing.T) {
	for _, key := range keys() {
		for _, nonce := range nonces() {
			for _, text := range texts() {
				opens(t, key, nonce, "with", sealed(t, key, nonce, "with", text), text)
			}
		}
	}
	for _, with := range withs() {
		opens(t, key, nonce, with, sealed(t, key, nonce, with, "text"), "text")
	}
	for _, n := range []int{api.MaxText - 1, api.MaxText} {
		opens(t, key, nonce, "", sealed(t, key, nonce, "", sample(n)), sample(n))
	}
}

// Whatever is hidden, if its tag is right, Open takes it, and Seal makes it again.
func TestSealUndoesOpen(t *testing.T) {
	for _, hidden := range append(texts(), sample(api.MaxText)) {
		for _, with := range []string{"", "with"} {
			box := hidden + libraryTag(t, key, nonce, with, hidden)
			text, e := seal.Open(key, nonce, with, box)
			if e != api.OK {
				t.Fatalf("%d bytes hidden: error %d", len(hidden), e)
			}
			if sealed(t, key, nonce, with, text) != box {
				t.Errorf("%d bytes hidden: another box", len(hidden))
			}
		}
	}
}

func TestSealLengths(t *testing.T) {
	for n := range 130 {
		if got := len(sealed(t, key, nonce, "with", sample(n))); got != n+16 {
			t.Errorf("of %d bytes: %d", n, got)
		}
	}
}

// Unlike keys, nonces, texts along and texts have unlike boxes.
func TestSealUnlike(t *testing.T) {
	boxes := map[string]bool{}
	many := 0
	for _, key := range keys() {
		for _, nonce := range nonces() {
			for _, with := range withs() {
				for _, text := range []string{"", "x", "text"} {
					boxes[sealed(t, key, nonce, with, text)] = true
					many++
				}
			}
		}
	}
	if len(boxes) != many {
		t.Errorf("%d boxes of %d", len(boxes), many)
	}
}

// R4: the same for the same, whatever was asked in between, refused or not, and whoever else asks.

func TestAnswersAgain(t *testing.T) {
	box := sealed(t, key, nonce, "with", "text")
	for _, between := range []func(){
		func() { sealed(t, sample(33)[1:], nonce, "with", "text") },
		func() { seal.Seal("k", nonce, "with", "text") },
		func() { seal.Seal(key, nonce, "with", sample(api.MaxText+1)) },
		func() { seal.Open(key, nonce, "with", "") },
		func() { seal.Open(key, nonce, "with", box+"?") },
		func() { seal.Open(key, nonce, "with", box) },
		func() { seal.Keys("k") },
	} {
		between()
		if got := sealed(t, key, nonce, "with", "text"); got != box {
			t.Errorf("another answer to the same question: %x, ahead of it %x", got, box)
		}
		opens(t, key, nonce, "with", box, "text")
	}
}

func TestAllAtOnce(t *testing.T) {
	var all sync.WaitGroup
	for _, key := range keys() {
		for _, nonce := range nonces() {
			want := libraryBox(t, key, nonce, "with", "text")
			all.Go(func() {
				if box, e := seal.Seal(key, nonce, "with", "text"); box != want || e != api.OK {
					t.Errorf("%x, %x: %x, error %d", key, nonce, box, e)
				}
				opens(t, key, nonce, "with", want, "text")
			})
			all.Go(func() { refuses(t, "no tag", key, nonce, "with", want+"?", api.ErrTag) })
		}
	}
	all.Wait()
}
