// Package crc is layer 1: check sums of 32 bits (CRC-32C).
package crc

import (
	"lavabo/api"
)

const (
	full     = 1<<32 - 1 // the greatest sum
	maxBytes = 1 << 20   // so many bytes may be told of
)

// nibbles is what a sum below 16 comes to by four steps of bits 0: with it
// four bits at once are stepped.
var nibbles = [16]uint32{
	0x00000000, 0x105ec76f, 0x20bd8ede, 0x30e349b1,
	0x417b1dbc, 0x5125dad3, 0x61c69362, 0x7198540d,
	0x82f63b78, 0x92a8fc17, 0xa24bb5a6, 0xb21572c9,
	0xc38d26c4, 0xd3d3e1ab, 0xe330a81a, 0xf36e6f75,
}

// stepper is a step of a sum, which starts so, by the bits of a byte, one
// byte behind the other; it answers the sum behind it.
func stepper(sum uint32) func(b byte) uint32 {
	return func(b byte) uint32 {
		sum ^= uint32(b)
		sum = nibbles[sum&15] ^ sum>>4
		sum = nibbles[sum&15] ^ sum>>4
		return sum
	}
}

// past is a sum, stepped with so many bytes 0.
func past(sum uint32, bytes int) uint32 {
	step := stepper(sum)
	for range bytes {
		sum = step(0)
	}
	return sum
}

// Sum is the CRC-32C of bytes, one behind the other.
func Sum(l ...[]byte) int {
	sum := uint32(full)
	step := stepper(sum)
rows:
	for _, row := range l {
		for i := 0; ; i++ {
			if i == len(row) {
				continue rows
			}
			sum = step(row[i])
		}
	}
	return int(sum ^ full)
}

// Join is the sum of two rows of bytes, by theirs, and how many bytes the second one has.
func Join(first, second, bytes int) (int, api.Errno) {
	if !isSum(first) || !isSum(second) || !isCount(bytes) {
		return 0, api.ErrArg
	}
	return int(past(uint32(first), bytes) ^ uint32(second)), api.OK
}

// Noughts is the sum of so many bytes 0.
func Noughts(bytes int) (int, api.Errno) {
	if !isCount(bytes) {
		return 0, api.ErrArg
	}
	return int(past(full, bytes) ^ full), api.OK
}

func isSum(n int) bool { return 0 <= n && n <= full }

func isCount(n int) bool { return 0 <= n && n <= maxBytes }
