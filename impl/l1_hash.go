// Package impl: documents that several change, and their history.
package impl

import (
	"math/bits"
	"strings"
)

const (
	hashBlock   = 64 // bytes of a block
	hashCount   = 8  // bytes that say how many bits a text has
	hashFigures = "0123456789abcdef"
)

// hashStart holds the fractional parts of the square roots of the first 8 primes.
var hashStart = [8]uint32{
	0x6a09e667, 0xbb67ae85, 0x3c6ef372, 0xa54ff53a, 0x510e527f, 0x9b05688c, 0x1f83d9ab, 0x5be0cd19,
}

// hashRounds holds the fractional parts of the cube roots of the first 64 primes.
var hashRounds = [64]uint32{
	0x428a2f98, 0x71374491, 0xb5c0fbcf, 0xe9b5dba5, 0x3956c25b, 0x59f111f1, 0x923f82a4, 0xab1c5ed5,
	0xd807aa98, 0x12835b01, 0x243185be, 0x550c7dc3, 0x72be5d74, 0x80deb1fe, 0x9bdc06a7, 0xc19bf174,
	0xe49b69c1, 0xefbe4786, 0x0fc19dc6, 0x240ca1cc, 0x2de92c6f, 0x4a7484aa, 0x5cb0a9dc, 0x76f988da,
	0x983e5152, 0xa831c66d, 0xb00327c8, 0xbf597fc7, 0xc6e00bf3, 0xd5a79147, 0x06ca6351, 0x14292967,
	0x27b70a85, 0x2e1b2138, 0x4d2c6dfc, 0x53380d13, 0x650a7354, 0x766a0abb, 0x81c2c92e, 0x92722c85,
	0xa2bfe8a1, 0xa81a664b, 0xc24b8b70, 0xc76c51a3, 0xd192e819, 0xd6990624, 0xf40e3585, 0x106aa070,
	0x19a4c116, 0x1e376c08, 0x2748774c, 0x34b0bcb5, 0x391c0cb3, 0x4ed8aa4a, 0x5b9cca4f, 0x682e6ff3,
	0x748f82ee, 0x78a5636f, 0x84c87814, 0x8cc70208, 0x90befffa, 0xa4506ceb, 0xbef9a3f7, 0xc67178f2,
}

// hashWork is a sum on its way: what it is so far, and the words of the rounds.
type hashWork struct {
	sum   [8]uint32
	words [64]uint32
}

// HashSum is the sum of a text.
func HashSum(text string) string {
	work := hashWork{sum: hashStart}
	whole := len(text) - len(text)%hashBlock
	work.addBlocks(text[:whole])
	work.addBlocks(text[whole:] + hashTail(len(text)))
	return work.figures()
}

// hashTail is what fills up the last block of a text of that many bytes.
func hashTail(size int) string {
	noughts := hashBlock - 1 - (size+hashCount)%hashBlock
	tail := make([]byte, 1+noughts+hashCount)
	tail[0] = 128
	count := uint64(size) * 8
	for i := range hashCount {
		tail[len(tail)-1-i] = byte(count >> (8 * i))
	}
	return string(tail)
}

func (work *hashWork) addBlocks(text string) {
	for ; len(text) > 0; text = text[hashBlock:] {
		work.setWords(text[:hashBlock])
		work.addRounds()
	}
}

// setWords makes the words of the rounds: a block's own 16, and those that come of them.
func (work *hashWork) setWords(text string) {
	block := work.words[:16]
	for i := range block {
		at := 4 * i
		block[i] = uint32(text[at])<<24 | uint32(text[at+1])<<16 | uint32(text[at+2])<<8 | uint32(text[at+3])
	}
	for i := len(block); i < len(work.words); i++ {
		far, near := work.words[i-15], work.words[i-2]
		low := bits.RotateLeft32(far, -7) ^ bits.RotateLeft32(far, -18) ^ far>>3
		high := bits.RotateLeft32(near, -17) ^ bits.RotateLeft32(near, -19) ^ near>>10
		work.words[i] = work.words[i-16] + low + work.words[i-7] + high
	}
}

func (work *hashWork) addRounds() {
	s := work.sum
	for i, root := range hashRounds {
		high := bits.RotateLeft32(s[4], -6) ^ bits.RotateLeft32(s[4], -11) ^ bits.RotateLeft32(s[4], -25)
		choice := s[4]&s[5] ^ ^s[4]&s[6]
		first := s[7] + high + choice + root + work.words[i]
		low := bits.RotateLeft32(s[0], -2) ^ bits.RotateLeft32(s[0], -13) ^ bits.RotateLeft32(s[0], -22)
		most := s[0]&s[1] ^ s[0]&s[2] ^ s[1]&s[2]
		s = [8]uint32{first + low + most, s[0], s[1], s[2], s[3] + first, s[4], s[5], s[6]}
	}
	for i, word := range s {
		work.sum[i] += word
	}
}

func (work *hashWork) figures() string {
	var out strings.Builder
	for _, word := range work.sum {
		for shift := 28; shift >= 0; shift -= 4 {
			out.WriteByte(hashFigures[word>>shift&15])
		}
	}
	return out.String()
}
