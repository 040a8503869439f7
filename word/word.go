// Package word is layer 1: arithmetic on numbers: see shared/doc/01-word.md.
package word

import (
	"math/bits"

	"lockgate/api"
)

// Alu is what an operation makes of two numbers of 64 (wide) or 32 bits; false: it is none.
func Alu(op int, wide bool, a, b uint64) (uint64, bool) {
	if wide {
		return calculate(op, a, b, int64(a), b%64)
	}
	v, ok := calculate(op, lowest32(a), lowest32(b), signed32(a), b%32)
	return lowest32(v), ok
}

// Swap is a number's lowest bytes, as they are, or the highest first; false: not with so many bits.
func Swap(bits int, high bool, v uint64) (uint64, bool) {
	switch bits {
	case 16:
		return uint64(order16(uint16(v), high)), true
	case 32:
		return uint64(order32(uint32(v), high)), true
	case 64:
		return order64(v, high), true
	}
	return 0, false
}

// Jump tells whether a jump is done with two numbers; false: it is no such jump.
func Jump(op int, wide bool, a, b uint64) (bool, bool) {
	if wide {
		return compare(op, a, b, int64(a), int64(b))
	}
	return compare(op, lowest32(a), lowest32(b), signed32(a), signed32(b))
}

// calculate takes a with its sign, and how far to shift, besides the numbers: these alone hang on the width.
// Of narrow numbers only the lowest 32 bits of the answer count.
func calculate(op int, a, b uint64, signed int64, shift uint64) (uint64, bool) {
	switch op {
	case api.Add:
		return a + b, true
	case api.Sub:
		return a - b, true
	case api.Mul:
		return a * b, true
	case api.Div:
		return quotient(a, b), true
	case api.Mod:
		return remainder(a, b), true
	case api.Or:
		return a | b, true
	case api.And:
		return a & b, true
	case api.Xor:
		return a ^ b, true
	case api.Lsh:
		return a << shift, true
	case api.Rsh:
		return a >> shift, true
	case api.Arsh:
		return uint64(signed >> shift), true
	case api.Neg:
		return -a, true
	case api.Mov:
		return b, true
	}
	return 0, false
}

// compare takes the numbers without and with their sign, so that it need not know the width.
func compare(op int, a, b uint64, signedA, signedB int64) (bool, bool) {
	switch op {
	case api.Jeq:
		return a == b, true
	case api.Jne:
		return a != b, true
	case api.Jgt:
		return a > b, true
	case api.Jge:
		return a >= b, true
	case api.Jlt:
		return a < b, true
	case api.Jle:
		return a <= b, true
	case api.Jsgt:
		return signedA > signedB, true
	case api.Jsge:
		return signedA >= signedB, true
	case api.Jslt:
		return signedA < signedB, true
	case api.Jsle:
		return signedA <= signedB, true
	case api.Jset:
		return a&b != 0, true
	}
	return false, false
}

func quotient(a, b uint64) uint64 {
	if b == 0 {
		return 0
	}
	return a / b
}

// remainder leaves a whole at 0, so that quotient times b and remainder are a there too.
func remainder(a, b uint64) uint64 {
	if b == 0 {
		return a
	}
	return a % b
}

func lowest32(v uint64) uint64 {
	return uint64(uint32(v))
}

func signed32(v uint64) int64 {
	return int64(int32(v))
}

func order16(v uint16, high bool) uint16 {
	if high {
		return bits.ReverseBytes16(v)
	}
	return v
}

func order32(v uint32, high bool) uint32 {
	if high {
		return bits.ReverseBytes32(v)
	}
	return v
}

func order64(v uint64, high bool) uint64 {
	if high {
		return bits.ReverseBytes64(v)
	}
	return v
}
