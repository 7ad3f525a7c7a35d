// Package digest is layer 1: see shared/doc/01-digest.md.
package digest

import (
	"iter"
	"strings"

	"columbarium/api"
)

const wordSize = 4 // bytes of a word

const countSize = 8 // bytes that tell how many bits a text has

// firstWords are bits of the square roots of the primes from 2 to 19.
var firstWords = [8]uint32{
	0x6a09e667, 0xbb67ae85, 0x3c6ef372, 0xa54ff53a, 0x510e527f, 0x9b05688c, 0x1f83d9ab, 0x5be0cd19,
}

// roundWords are bits of the cube roots of the primes from 2 to 311.
var roundWords = [64]uint32{
	0x428a2f98, 0x71374491, 0xb5c0fbcf, 0xe9b5dba5, 0x3956c25b, 0x59f111f1, 0x923f82a4, 0xab1c5ed5,
	0xd807aa98, 0x12835b01, 0x243185be, 0x550c7dc3, 0x72be5d74, 0x80deb1fe, 0x9bdc06a7, 0xc19bf174,
	0xe49b69c1, 0xefbe4786, 0x0fc19dc6, 0x240ca1cc, 0x2de92c6f, 0x4a7484aa, 0x5cb0a9dc, 0x76f988da,
	0x983e5152, 0xa831c66d, 0xb00327c8, 0xbf597fc7, 0xc6e00bf3, 0xd5a79147, 0x06ca6351, 0x14292967,
	0x27b70a85, 0x2e1b2138, 0x4d2c6dfc, 0x53380d13, 0x650a7354, 0x766a0abb, 0x81c2c92e, 0x92722c85,
	0xa2bfe8a1, 0xa81a664b, 0xc24b8b70, 0xc76c51a3, 0xd192e819, 0xd6990624, 0xf40e3585, 0x106aa070,
	0x19a4c116, 0x1e376c08, 0x2748774c, 0x34b0bcb5, 0x391c0cb3, 0x4ed8aa4a, 0x5b9cca4f, 0x682e6ff3,
	0x748f82ee, 0x78a5636f, 0x84c87814, 0x8cc70208, 0x90befffa, 0xa4506ceb, 0xbef9a3f7, 0xc67178f2,
}

// Compress is what a block of 64 bytes makes of eight words.
func Compress(h [8]uint32, block string) ([8]uint32, api.Errno) {
	if len(block) != api.Block {
		return [8]uint32{}, api.ErrArg
	}
	return mix(h, block), api.OK
}

// New is a sum of nothing yet, Right tells whether one may be.
func New() api.Hash { return api.Hash{H: firstWords} }

func Right(h api.Hash) bool {
	return h.Many >= 0 && h.Many <= api.MaxBytes && len(h.Rest) == h.Many%api.Block
}

// Add adds a text, End is the sum of all that was added.
func Add(h api.Hash, s string) (api.Hash, api.Errno) {
	if !Right(h) {
		return api.Hash{}, api.ErrArg
	}
	if len(s) > api.MaxBytes-h.Many {
		return api.Hash{}, api.ErrLong
	}
	text := h.Rest + s
	whole := len(text) - len(text)%api.Block
	return api.Hash{
		H: mixAll(h.H, text),
		// A copy, lest the few bytes that are left keep the whole text in memory.
		Rest: strings.Clone(text[whole:]),
		Many: h.Many + len(s),
	}, api.OK
}

func End(h api.Hash) (string, api.Errno) {
	if !Right(h) {
		return "", api.ErrArg
	}
	return wordBytes(mixAll(h.H, h.Rest+padding(h.Many))), api.OK
}

// Sum is a text's sum.
func Sum(s string) (string, api.Errno) {
	h, e := Add(New(), s)
	if e != api.OK {
		return "", e
	}
	return End(h)
}

// blocks tells the whole blocks of a text; what is behind the last one is left out.
func blocks(text string) iter.Seq[string] {
	return func(yield func(string) bool) {
		for at := 0; at+api.Block <= len(text); at += api.Block {
			if !yield(text[at : at+api.Block]) {
				return
			}
		}
	}
}

// mixAll is what all whole blocks of a text make of eight words.
func mixAll(h [8]uint32, text string) [8]uint32 {
	for block := range blocks(text) {
		h = mix(h, block)
	}
	return h
}

// mix is Compress of a block whose length is known to be right.
func mix(h [8]uint32, block string) [8]uint32 {
	w := schedule(block)
	s := h
	for i := range w {
		s = round(s, roundWords[i]+w[i])
	}
	for i := range h {
		h[i] += s[i]
	}
	return h
}

// schedule is the block's sixteen words, and those that follow from them: one for each round.
func schedule(block string) [64]uint32 {
	var w [64]uint32
	for i := range 16 {
		w[i] = wordAt(block, i)
	}
	for i := 16; i < len(w); i++ {
		x, y := w[i-15], w[i-2]
		w[i] = w[i-16] + w[i-7] +
			(turn(7, x) ^ turn(18, x) ^ x>>3) +
			(turn(17, y) ^ turn(19, y) ^ y>>10)
	}
	return w
}

// round is one round: s holds the words a to h, more the round's word and the block's.
func round(s [8]uint32, more uint32) [8]uint32 {
	a, b, c, e, f, g := s[0], s[1], s[2], s[4], s[5], s[6]
	t := s[7] + (turn(6, e) ^ turn(11, e) ^ turn(25, e)) + (e&f ^ ^e&g) + more
	u := (turn(2, a) ^ turn(13, a) ^ turn(22, a)) + (a&b ^ a&c ^ b&c)
	return [8]uint32{t + u, a, b, c, s[3] + t, e, f, g}
}

func turn(n uint, x uint32) uint32 { return x>>n | x<<(32-n) }

func wordAt(block string, i int) uint32 {
	at := i * wordSize
	return uint32(block[at])<<24 | uint32(block[at+1])<<16 | uint32(block[at+2])<<8 | uint32(block[at+3])
}

func wordBytes(h [8]uint32) string {
	out := make([]byte, 0, api.Size)
	for _, w := range h {
		out = append(out, byte(w>>24), byte(w>>16), byte(w>>8), byte(w))
	}
	return string(out)
}

// padding is what stands behind a text of so many bytes, that it be whole blocks and its length be told.
func padding(many int) string {
	noughts := (2*api.Block - 1 - countSize - many%api.Block) % api.Block
	out := make([]byte, 1+noughts, 1+noughts+countSize)
	out[0] = 128
	bits := uint64(many) * 8
	for shift := 56; shift >= 0; shift -= 8 {
		out = append(out, byte(bits>>shift))
	}
	return string(out)
}
