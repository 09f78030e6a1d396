// Package bits is layer 1: see shared/doc/01-bits.md.
package bits

import (
	"hansom/api"
)

const (
	paragraph  = 16
	mostNumber = 1 << 24
	mostStep   = 4096
	mostDigits = 8
	digits     = "0123456789ABCDEF"
)

// Sign is a byte as a word, its sign spread.
func Sign(b byte) uint16 { return uint16(int8(b)) }

// Low and High are a word's bytes; Word is the word of two.
func Low(w uint16) byte { return byte(w) }

func High(w uint16) byte { return byte(w >> 8) }

func Word(low, high byte) uint16 { return uint16(high)<<8 | uint16(low) }

// Fits tells whether a word is a byte whose sign is spread.
func Fits(w uint16) bool { return Sign(Low(w)) == w }

// Even tells whether a byte has an even number of ones.
func Even(b byte) bool {
	// Each fold leaves in the lower half whether the number of ones was odd.
	b ^= b >> 4
	b ^= b >> 2
	b ^= b >> 1
	return b&1 == 0
}

// Linear is where a segment's offset is: the memory comes round at its end.
func Linear(seg, off uint16) uint32 {
	return (uint32(seg)*paragraph + uint32(off)) % api.MemoryBytes
}

// Normal is the segment and the offset below 16 of a place (modulo 2^20).
func Normal(at uint32) (uint16, uint16) {
	at %= api.MemoryBytes
	return uint16(at / paragraph), uint16(at % paragraph)
}

// Paras is how many paragraphs so many bytes need (16 each); 0 below 1.
func Paras(n int) int {
	if n < 1 {
		return 0
	}
	// The last byte's paragraph and one: adding 15 first would come round at the greatest numbers.
	return (n-1)/paragraph + 1
}

// Up is the least multiple of a step that is not below a number from 0 to 2^24; steps that are no power of 2 from 1 to 4096 count as 1.
func Up(n, step int) int {
	n = min(max(n, 0), mostNumber)
	if !isStep(step) {
		return n
	}
	return (n + step - 1) &^ (step - 1)
}

func isStep(step int) bool {
	return step >= 1 && step <= mostStep && step&(step-1) == 0
}

// Digits is the last so many hexadecimal digits of a number (1 to 8), the greatest first.
func Digits(n uint32, many int) string {
	text := make([]byte, min(max(many, 1), mostDigits))
	for i := len(text) - 1; i >= 0; i-- {
		text[i] = digits[n%16]
		n /= 16
	}
	return string(text)
}
