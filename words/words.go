// Package words is layer 1: see shared/doc/01-words.md.
package words

import "garderobe/api"

// Two: what an operator makes of two words.
func Two(op api.Arith, a, b uint16) (uint16, api.Fault, api.Errno) {
	switch op {
	case api.Sub:
		b = Neg(b)
		fallthrough
	case api.Add:
		return a + b, api.NoFault, api.OK
	case api.Mul:
		// A product's lowest 16 bits are the same, whether words or worths are multiplied.
		return a * b, api.NoFault, api.OK
	case api.Div, api.Rem:
		if b == 0 {
			return 0, api.FaultArith, api.OK
		}
		return divide(op, a, b), api.NoFault, api.OK
	case api.Shl, api.Shr, api.Ushr:
		return move(op, a, b), api.NoFault, api.OK
	case api.And:
		return a & b, api.NoFault, api.OK
	case api.Or:
		return a | b, api.NoFault, api.OK
	case api.Xor:
		return a ^ b, api.NoFault, api.OK
	}
	return 0, api.NoFault, api.ErrArg
}

// divide: the quotient of Div, and for Rem what is left of it; b isn't 0.
func divide(op api.Arith, a, b uint16) uint16 {
	// 32 bits hold every quotient, that of -32768 by -1 too.
	x, y := wide(a), wide(b)
	if op == api.Div {
		return uint16(x / y)
	}
	return uint16(x % y)
}

// move: a moved by the lowest five bits of b, upward or downward.
func move(op api.Arith, a, b uint16) uint16 {
	by := b & 31
	switch op {
	case api.Shl:
		return uint16(wide(a) << by)
	case api.Shr:
		return uint16(wide(a) >> by)
	}
	// The sign is widened first: what comes down from bits 16 to 31 is its.
	return uint16(uint32(wide(a)) >> by)
}

// wide: a word's worth in 32 bits.
func wide(a uint16) int32 { return int32(int16(a)) }

// Neg: the negative worth as a word; of 32768 that is itself.
func Neg(a uint16) uint16 { return uint16(-int16(a)) }

// Byte: a word's lowest eight bits, with their sign, as a word.
func Byte(a uint16) uint16 { return OfByte(byte(a)) }

// OfByte: a byte, with its sign, as a word.
func OfByte(b byte) uint16 { return uint16(int8(b)) }

// Worth: a word as a number from -32768 to 32767.
func Worth(a uint16) int { return int(int16(a)) }

// Is: does a condition hold of two words?
func Is(c api.Cond, a, b uint16) (bool, api.Errno) {
	// Each condition falls through to its contrary, with the other answer wanted of it.
	want := true
	switch c {
	case api.CondNe:
		want = false
		fallthrough
	case api.CondEq:
		return (a == b) == want, api.OK
	case api.CondGe:
		want = false
		fallthrough
	case api.CondLt:
		return (Worth(a) < Worth(b)) == want, api.OK
	case api.CondLe:
		want = false
		fallthrough
	case api.CondGt:
		return (Worth(a) > Worth(b)) == want, api.OK
	}
	return false, api.ErrArg
}
