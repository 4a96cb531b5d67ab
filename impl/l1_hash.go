// Package impl: plans for infrastructure of many tenants, let through by policies and approvals, and told by an audit.
package impl

import (
	"math/bits"
	"strconv"
)

// hashSize is the bytes of a block, hashTail those at its end that tell how long the text was.
const (
	hashSize = 64
	hashTail = 8
)

const hashFigures = "0123456789abcdef"

// hashStart is where a sum begins: the first 32 bits of the fractions of the square roots of the first 8 primes.
var hashStart = hashState{
	0x6a09e667, 0xbb67ae85, 0x3c6ef372, 0xa54ff53a, 0x510e527f, 0x9b05688c, 0x1f83d9ab, 0x5be0cd19,
}

// hashKeys is a word for each round: the first 32 bits of the fractions of the cube roots of the first 64 primes.
var hashKeys = [64]uint32{
	0x428a2f98, 0x71374491, 0xb5c0fbcf, 0xe9b5dba5, 0x3956c25b, 0x59f111f1, 0x923f82a4, 0xab1c5ed5,
	0xd807aa98, 0x12835b01, 0x243185be, 0x550c7dc3, 0x72be5d74, 0x80deb1fe, 0x9bdc06a7, 0xc19bf174,
	0xe49b69c1, 0xefbe4786, 0x0fc19dc6, 0x240ca1cc, 0x2de92c6f, 0x4a7484aa, 0x5cb0a9dc, 0x76f988da,
	0x983e5152, 0xa831c66d, 0xb00327c8, 0xbf597fc7, 0xc6e00bf3, 0xd5a79147, 0x06ca6351, 0x14292967,
	0x27b70a85, 0x2e1b2138, 0x4d2c6dfc, 0x53380d13, 0x650a7354, 0x766a0abb, 0x81c2c92e, 0x92722c85,
	0xa2bfe8a1, 0xa81a664b, 0xc24b8b70, 0xc76c51a3, 0xd192e819, 0xd6990624, 0xf40e3585, 0x106aa070,
	0x19a4c116, 0x1e376c08, 0x2748774c, 0x34b0bcb5, 0x391c0cb3, 0x4ed8aa4a, 0x5b9cca4f, 0x682e6ff3,
	0x748f82ee, 0x78a5636f, 0x84c87814, 0x8cc70208, 0x90befffa, 0xa4506ceb, 0xbef9a3f7, 0xc67178f2,
}

// hashBlock is a block of a text as words.
type hashBlock [16]uint32

// first is the word at a place as the text has it.
func (b *hashBlock) first(place int) uint32 {
	return b[place]
}

// later takes the place of the word of 16 rounds ago, as nothing asks for that one any more.
func (b *hashBlock) later(place int) uint32 {
	far, near := b[(place+1)%16], b[(place+14)%16]
	far = bits.RotateLeft32(far, -7) ^ bits.RotateLeft32(far, -18) ^ far>>3
	near = bits.RotateLeft32(near, -17) ^ bits.RotateLeft32(near, -19) ^ near>>10
	b[place] += far + b[(place+9)%16] + near
	return b[place]
}

// hashState is how far a sum has come.
type hashState [8]uint32

// round lets one word in; all others move on by one place.
func (s *hashState) round(word uint32) {
	a, e := s[0], s[4]
	word += s[7] + (e&s[5] ^ ^e&s[6])
	word += bits.RotateLeft32(e, -6) ^ bits.RotateLeft32(e, -11) ^ bits.RotateLeft32(e, -25)
	head := a&s[1] ^ a&s[2] ^ s[1]&s[2]
	head += bits.RotateLeft32(a, -2) ^ bits.RotateLeft32(a, -13) ^ bits.RotateLeft32(a, -22)
	copy(s[1:], s[:7])
	s[0] = word + head
	s[4] += word
}

// take lets a whole block in.
func (s *hashState) take(b hashBlock) {
	words := [4]func(*hashBlock, int) uint32{
		(*hashBlock).first, (*hashBlock).later, (*hashBlock).later, (*hashBlock).later,
	}
	next := *s
	for i := range 64 {
		next.round(words[i/16](&b, i%16) + hashKeys[i])
	}
	for i := range s {
		s[i] += next[i]
	}
}

// hashCounter counts bytes, as a sum ends with how many there were.
type hashCounter struct {
	bytes uint64
}

func (c *hashCounter) count(n int) {
	c.bytes += uint64(n)
}

// filled is how many bytes wait for their block to be full.
func (c *hashCounter) filled() int {
	return int(c.bytes % hashSize)
}

// hashWriter makes a sum of what is written into it. It has the form of an io.Writer, which cannot be imported here.
type hashWriter struct {
	hashCounter
	state hashState
	wait  [hashSize]byte
}

// Write never has an error; it tells one because an io.Writer does.
func (w *hashWriter) Write(list []byte) (int, error) {
	for rest := list; len(rest) > 0; {
		n := copy(w.wait[w.filled():], rest)
		rest = rest[n:]
		w.count(n)
		if w.filled() == 0 {
			w.state.take(w.block())
		}
	}
	return len(list), nil
}

func (w *hashWriter) block() hashBlock {
	var b hashBlock
	for i, c := range w.wait {
		b[i/4] = b[i/4]<<8 | uint32(c)
	}
	return b
}

// end fills up the last block: a bit, noughts, and the length in bits.
func (w *hashWriter) end() {
	noughts := (2*hashSize - hashTail - 1 - w.filled()) % hashSize
	fill := make([]byte, 1+noughts+hashTail)
	fill[0] = 0x80
	for i := range hashTail {
		fill[1+noughts+i] = byte(w.bytes * 8 >> (56 - 8*i))
	}
	w.Write(fill)
}

// hashBytes is the sum of texts one behind the other, as bytes.
func hashBytes(texts ...string) []byte {
	w := hashWriter{state: hashStart}
	for _, text := range texts {
		w.Write([]byte(text))
	}
	w.end()
	sum := make([]byte, 0, 32)
	for _, word := range w.state {
		sum = append(sum, byte(word>>24), byte(word>>16), byte(word>>8), byte(word))
	}
	return sum
}

func hashShow(sum []byte) string {
	text := make([]byte, 0, 2*len(sum))
	for _, c := range sum {
		text = append(text, hashFigures[c>>4], hashFigures[c&15])
	}
	return string(text)
}

// hashPad is a key as long as a block, each byte turned by a mask.
func hashPad(key string, mask byte) string {
	var pad [hashSize]byte
	copy(pad[:], key)
	for i := range pad {
		pad[i] ^= mask
	}
	return string(pad[:])
}

// HashSum is the SHA-256 of a text, in 64 figures.
func HashSum(text string) string {
	return hashShow(hashBytes(text))
}

// HashMac is the HMAC-SHA-256 of a text by a key, in 64 figures.
func HashMac(key string, text string) string {
	if len(key) > hashSize {
		key = string(hashBytes(key))
	}
	inner := hashBytes(hashPad(key, 0x36), text)
	return hashShow(hashBytes(hashPad(key, 0x5c), string(inner)))
}

// HashList is the sum of texts, which tells where one ends and the next begins.
func HashList(list []string) string {
	parts := make([]string, 0, 2*len(list))
	for _, text := range list {
		parts = append(parts, strconv.Itoa(len(text))+":", text)
	}
	return hashShow(hashBytes(parts...))
}
