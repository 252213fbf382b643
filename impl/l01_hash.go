package impl

import "math/bits"

const HashSize = 32

const (
	blockSize  = 64
	lengthSize = 8
	hexDigits  = "0123456789abcdef"
	checkMask  = 0xEDB88320
)

// registers are the words a to h of SHA-256; as an array they are copied, so no step sees another's.
type registers [8]uint32

var roundWords = [64]uint32{
	0x428a2f98, 0x71374491, 0xb5c0fbcf, 0xe9b5dba5, 0x3956c25b, 0x59f111f1, 0x923f82a4, 0xab1c5ed5,
	0xd807aa98, 0x12835b01, 0x243185be, 0x550c7dc3, 0x72be5d74, 0x80deb1fe, 0x9bdc06a7, 0xc19bf174,
	0xe49b69c1, 0xefbe4786, 0x0fc19dc6, 0x240ca1cc, 0x2de92c6f, 0x4a7484aa, 0x5cb0a9dc, 0x76f988da,
	0x983e5152, 0xa831c66d, 0xb00327c8, 0xbf597fc7, 0xc6e00bf3, 0xd5a79147, 0x06ca6351, 0x14292967,
	0x27b70a85, 0x2e1b2138, 0x4d2c6dfc, 0x53380d13, 0x650a7354, 0x766a0abb, 0x81c2c92e, 0x92722c85,
	0xa2bfe8a1, 0xa81a664b, 0xc24b8b70, 0xc76c51a3, 0xd192e819, 0xd6990624, 0xf40e3585, 0x106aa070,
	0x19a4c116, 0x1e376c08, 0x2748774c, 0x34b0bcb5, 0x391c0cb3, 0x4ed8aa4a, 0x5b9cca4f, 0x682e6ff3,
	0x748f82ee, 0x78a5636f, 0x84c87814, 0x8cc70208, 0x90befffa, 0xa4506ceb, 0xbef9a3f7, 0xc67178f2,
}

func Hash(b []byte) string {
	if len(b) > MaxText {
		return ""
	}
	return hashOf(b)
}

// hashOf has no limit: a message behind a key may be longer than a text that is handed in.
func hashOf(b []byte) string {
	words := registers{
		0x6a09e667, 0xbb67ae85, 0x3c6ef372, 0xa54ff53a,
		0x510e527f, 0x9b05688c, 0x1f83d9ab, 0x5be0cd19,
	}
	message := padMessage(b)
	for at := 0; at < len(message); at += blockSize {
		words = mixBlock(words, message[at:at+blockSize])
	}
	return wordsText(words)
}

// padMessage copies b, since to append to it could write behind its end.
func padMessage(b []byte) []byte {
	blocks := (len(b) + 1 + lengthSize + blockSize - 1) / blockSize
	message := make([]byte, blocks*blockSize)
	copy(message, b)
	message[len(b)] = 0x80
	bitCount := uint64(len(b)) * 8
	for i := range lengthSize {
		message[len(message)-1-i] = byte(bitCount >> (8 * i))
	}
	return message
}

func mixBlock(words registers, block []byte) registers {
	spread := spreadBlock(block)
	turned := words
	for i := range spread {
		turned = turnRegisters(turned, roundWords[i]+spread[i])
	}
	for i := range words {
		words[i] += turned[i]
	}
	return words
}

func spreadBlock(block []byte) [64]uint32 {
	var w [64]uint32
	for i := range 16 {
		for j := range 4 {
			w[i] = w[i]<<8 | uint32(block[4*i+j])
		}
	}
	for i := 16; i < len(w); i++ {
		s := turnRight(w[i-15], 7) ^ turnRight(w[i-15], 18) ^ w[i-15]>>3
		t := turnRight(w[i-2], 17) ^ turnRight(w[i-2], 19) ^ w[i-2]>>10
		w[i] = w[i-16] + s + w[i-7] + t
	}
	return w
}

func turnRegisters(r registers, word uint32) registers {
	a, b, c, d := r[0], r[1], r[2], r[3]
	e, f, g, h := r[4], r[5], r[6], r[7]
	p := h + (turnRight(e, 6) ^ turnRight(e, 11) ^ turnRight(e, 25)) + (e&f | ^e&g) + word
	q := (turnRight(a, 2) ^ turnRight(a, 13) ^ turnRight(a, 22)) + (a&b | a&c | b&c)
	return registers{p + q, a, b, c, d + p, e, f, g}
}

func turnRight(x uint32, by int) uint32 {
	return bits.RotateLeft32(x, -by)
}

func wordsText(words registers) string {
	out := make([]byte, 0, HashSize)
	for _, word := range words {
		out = append(out, byte(word>>24), byte(word>>16), byte(word>>8), byte(word))
	}
	return string(out)
}

func HashText(h string) (string, int) {
	if code := hashFault(h); code != OK {
		return "", code
	}
	out := make([]byte, 0, 2*HashSize)
	for i := 0; i < len(h); i++ {
		out = append(out, hexDigits[h[i]>>4], hexDigits[h[i]&15])
	}
	return string(out), OK
}

func hashFault(h string) int {
	if len(h) > MaxText {
		return ErrLong
	}
	if len(h) != HashSize {
		return ErrBad
	}
	return OK
}

func ReadHash(t string) (string, int) {
	if len(t) > MaxText {
		return "", ErrLong
	}
	if len(t) != 2*HashSize {
		return "", ErrForm
	}
	out := make([]byte, 0, HashSize)
	for i := 0; i < len(t); i += 2 {
		high, low := hexValue(t[i]), hexValue(t[i+1])
		if high < 0 || low < 0 {
			return "", ErrForm
		}
		out = append(out, byte(high<<4|low))
	}
	return string(out), OK
}

// hexValue answers -1 of a byte that is no digit; capital ones are none, so that a hash has one text alone.
func hexValue(c byte) int {
	switch {
	case isDigit(c):
		return int(c - '0')
	case c >= 'a' && c <= 'f':
		return int(c-'a') + 10
	}
	return -1
}

func Check32(b []byte) int {
	if len(b) > MaxText {
		return 0
	}
	register := ^uint32(0)
	for _, c := range b {
		register = shiftByte(register ^ uint32(c))
	}
	return int(^register)
}

func shiftByte(register uint32) uint32 {
	for range 8 {
		odd := register&1 == 1
		register >>= 1
		if odd {
			register ^= checkMask
		}
	}
	return register
}

func HashBits(h string) (string, int) {
	if code := hashFault(h); code != OK {
		return "", code
	}
	out := make([]byte, 0, 8*HashSize)
	for i := 0; i < len(h); i++ {
		for bit := 7; bit >= 0; bit-- {
			out = append(out, '0'+(h[i]>>bit)&1)
		}
	}
	return string(out), OK
}
