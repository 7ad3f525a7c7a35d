package field_test

import (
	"encoding/hex"
	"math/rand"
	"strings"
	"testing"

	"columbarium/field"
)

// published are all 256 answers of Sub, sixteen a line, as FIPS 197 prints them.
const published = `
637c777bf26b6fc53001672bfed7ab76
ca82c97dfa5947f0add4a2af9ca472c0
b7fd9326363ff7cc34a5e5f171d83115
04c723c31896059a071280e2eb27b275
09832c1a1b6e5aa0523bd6b329e32f84
53d100ed20fcb15b6acbbe394a4c58cf
d0efaafb434d338545f9027f503c9fa8
51a3408f929d38f5bcb6da2110fff3d2
cd0c13ec5f974417c4a77e3d645d1973
60814fdc222a908846eeb814de5e0bdb
e0323a0a4906245cc2d3ac629195e479
e7c8376d8dd54ea96c56f4ea657aae08
ba78252e1ca6b4c6e8dd741f4bbd8b8a
703eb5664803f60e613557b986c11d9e
e1f8981169d98e949b1e87e9ce5528df
8ca1890dbfe6426841992d0fb054bb16`

// longProduct is a product of sums of powers, powers from the eighth on being taken off from the highest down.
func longProduct(a, b byte) byte {
	product := 0
	for i := range 8 {
		if b>>i&1 == 1 {
			product ^= int(a) << i
		}
	}
	const modulus = 1<<8 | 1<<4 | 1<<3 | 1<<1 | 1
	for i := 14; i >= 8; i-- {
		if product>>i&1 == 1 {
			product ^= modulus << (i - 8)
		}
	}
	return byte(product)
}

// products is Mul of all pairs.
func products() *[256][256]byte {
	var all [256][256]byte
	for a := range 256 {
		for b := range 256 {
			all[a][b] = field.Mul(byte(a), byte(b))
		}
	}
	return &all
}

// bent is what Sub makes of a number's inverse, bit by bit as the promise says it.
func bent(b byte) byte {
	bit := func(x byte, i int) byte { return x >> (i % 8) & 1 }
	out := byte(0)
	for i := range 8 {
		out |= (bit(b, i) ^ bit(b, i+4) ^ bit(b, i+5) ^ bit(b, i+6) ^ bit(b, i+7) ^ bit(99, i)) << i
	}
	return out
}

// longMix is Mix, place by place as the promise says it.
func longMix(c [4]byte) [4]byte {
	var out [4]byte
	for i := range 4 {
		out[i] = longProduct(2, c[i]) ^ longProduct(3, c[(i+1)%4]) ^ c[(i+2)%4] ^ c[(i+3)%4]
	}
	return out
}

func sum(a, b [4]byte) [4]byte {
	for i := range a {
		a[i] ^= b[i]
	}
	return a
}

// columns are those of noughts, of one byte that is not nought, of one byte four times, and many more of all kinds.
func columns() [][4]byte {
	out := [][4]byte{{}}
	for b := 1; b < 256; b++ {
		v := byte(b)
		out = append(out, [4]byte{v}, [4]byte{0, v}, [4]byte{0, 0, v}, [4]byte{0, 0, 0, v}, [4]byte{v, v, v, v})
	}
	r := rand.New(rand.NewSource(3))
	for range 20000 {
		n := r.Uint32()
		out = append(out, [4]byte{byte(n), byte(n >> 8), byte(n >> 16), byte(n >> 24)})
	}
	return out
}

// C1

func TestMulAllPairs(t *testing.T) {
	for a := range 256 {
		for b := range 256 {
			if got, want := field.Mul(byte(a), byte(b)), longProduct(byte(a), byte(b)); got != want {
				t.Errorf("%d times %d: %d, want %d", a, b, got, want)
			}
		}
	}
}

func TestMulKnown(t *testing.T) {
	for _, x := range [][3]byte{
		{87, 131, 193},
		{87, 19, 254},
		{2, 128, 27},
		{128, 2, 27},
		{128, 128, 154},
		{3, 246, 1},
		{255, 255, 19},
	} {
		if got := field.Mul(x[0], x[1]); got != x[2] {
			t.Errorf("%d times %d: %d, want %d", x[0], x[1], got, x[2])
		}
	}
}

func TestMulNoughtAndOne(t *testing.T) {
	for a := range 256 {
		b := byte(a)
		if l, r := field.Mul(0, b), field.Mul(b, 0); l != 0 || r != 0 {
			t.Errorf("0 times %d: %d and %d", b, l, r)
		}
		if l, r := field.Mul(1, b), field.Mul(b, 1); l != b || r != b {
			t.Errorf("1 times %d: %d and %d", b, l, r)
		}
	}
}

func TestInv(t *testing.T) {
	if got := field.Inv(0); got != 0 {
		t.Errorf("of 0: %d", got)
	}
	for a := 1; a < 256; a++ {
		if got := field.Inv(byte(a)); longProduct(byte(a), got) != 1 || field.Mul(byte(a), got) != 1 {
			t.Errorf("of %d: %d, the product is %d", a, got, field.Mul(byte(a), got))
		}
	}
}

func TestInvKnown(t *testing.T) {
	for a, want := range map[byte]byte{0: 0, 1: 1, 2: 141, 3: 246, 83: 202, 255: 28} {
		if got := field.Inv(a); got != want {
			t.Errorf("of %d: %d, want %d", a, got, want)
		}
	}
}

// C2

func TestSubBitByBit(t *testing.T) {
	for a := range 256 {
		if got, want := field.Sub(byte(a)), bent(field.Inv(byte(a))); got != want {
			t.Errorf("of %d: %d, want %d", a, got, want)
		}
	}
}

func TestSubPublished(t *testing.T) {
	table, err := hex.DecodeString(strings.ReplaceAll(published, "\n", ""))
	if err != nil || len(table) != 256 {
		t.Fatal(len(table), err)
	}
	for a, want := range table {
		if got := field.Sub(byte(a)); got != want {
			t.Errorf("of %d: %d, want %d", a, got, want)
		}
		if got := field.Back(want); got != byte(a) {
			t.Errorf("back of %d: %d, want %d", want, got, a)
		}
	}
}

func TestBack(t *testing.T) {
	for a := range 256 {
		b := byte(a)
		if got := field.Back(field.Sub(b)); got != b {
			t.Errorf("Back of Sub of %d: %d", b, got)
		}
		if got := field.Sub(field.Back(b)); got != b {
			t.Errorf("Sub of Back of %d: %d", b, got)
		}
	}
	if got := field.Back(99); got != 0 {
		t.Errorf("Back of 99: %d", got)
	}
}

// C3

func TestMixKnown(t *testing.T) {
	for c, want := range map[[4]byte][4]byte{
		{219, 19, 83, 69}:    {142, 77, 161, 188},
		{242, 10, 34, 92}:    {159, 220, 88, 157},
		{212, 212, 212, 213}: {213, 213, 215, 214},
		{45, 38, 49, 76}:     {77, 126, 189, 248},
		{0, 0, 0, 0}:         {0, 0, 0, 0},
		{1, 0, 0, 0}:         {2, 1, 1, 3},
		{0, 1, 0, 0}:         {3, 2, 1, 1},
		{0, 0, 1, 0}:         {1, 3, 2, 1},
		{0, 0, 0, 1}:         {1, 1, 3, 2},
		{255, 255, 255, 255}: {255, 255, 255, 255},
	} {
		if got := field.Mix(c); got != want {
			t.Errorf("of %d: %d, want %d", c, got, want)
		}
		if got := field.Unmix(want); got != c {
			t.Errorf("Unmix of %d: %d, want %d", want, got, c)
		}
	}
}

func TestMixPlaceByPlace(t *testing.T) {
	for _, c := range columns() {
		kept := c
		if got, want := field.Mix(c), longMix(c); got != want || c != kept {
			t.Fatalf("of %d: %d, want %d", kept, got, want)
		}
	}
}

func TestUnmix(t *testing.T) {
	for _, c := range columns() {
		if got := field.Unmix(longMix(c)); got != c {
			t.Fatalf("of %d: %d, want %d", longMix(c), got, c)
		}
		if got := field.Unmix(field.Mix(c)); got != c {
			t.Fatalf("Unmix of Mix of %d: %d", c, got)
		}
		if got := field.Mix(field.Unmix(c)); got != c {
			t.Fatalf("Mix of Unmix of %d: %d", c, got)
		}
	}
}

// C4

func TestMulAnyOrder(t *testing.T) {
	all := products()
	for a := range 256 {
		for b := range 256 {
			if all[a][b] != all[b][a] {
				t.Fatalf("%d and %d: %d, turned about %d", a, b, all[a][b], all[b][a])
			}
			for c := range 256 {
				if all[all[a][b]][c] != all[a][all[b][c]] {
					t.Fatalf("%d, %d and %d: the order is to be seen", a, b, c)
				}
			}
		}
	}
}

func TestMulOfSums(t *testing.T) {
	all := products()
	for a := range 256 {
		for b := range 256 {
			for c := range 256 {
				if all[a][b^c] != all[a][b]^all[a][c] {
					t.Fatalf("%d times the sum of %d and %d: %d", a, b, c, all[a][b^c])
				}
			}
		}
	}
}

func TestInvUndoesItself(t *testing.T) {
	for a := range 256 {
		if got := field.Inv(field.Inv(byte(a))); got != byte(a) {
			t.Errorf("of %d: %d", a, got)
		}
	}
}

func TestSubReachesAll(t *testing.T) {
	var ofSub, ofBack [256]int
	for a := range 256 {
		ofSub[field.Sub(byte(a))]++
		ofBack[field.Back(byte(a))]++
	}
	for a := range 256 {
		if ofSub[a] != 1 || ofBack[a] != 1 {
			t.Errorf("%d is the Sub of %d, the Back of %d", a, ofSub[a], ofBack[a])
		}
	}
}

func TestMixOfSums(t *testing.T) {
	all := columns()
	for i, a := range all {
		b := all[len(all)-1-i]
		if got, want := field.Mix(sum(a, b)), sum(field.Mix(a), field.Mix(b)); got != want {
			t.Fatalf("of the sum of %d and %d: %d, want %d", a, b, got, want)
		}
		if got, want := field.Unmix(sum(a, b)), sum(field.Unmix(a), field.Unmix(b)); got != want {
			t.Fatalf("Unmix of the sum of %d and %d: %d, want %d", a, b, got, want)
		}
	}
}

// A column is the sum of those that have one of its bytes each, and its Mix the sum of theirs.
func TestMixByParts(t *testing.T) {
	for _, c := range columns() {
		var mix, unmix [4]byte
		for i := range c {
			var one [4]byte
			one[i] = c[i]
			mix, unmix = sum(mix, field.Mix(one)), sum(unmix, field.Unmix(one))
		}
		if got := field.Mix(c); got != mix {
			t.Fatalf("of %d: %d, by parts %d", c, got, mix)
		}
		if got := field.Unmix(c); got != unmix {
			t.Fatalf("Unmix of %d: %d, by parts %d", c, got, unmix)
		}
	}
}
