package code

import (
	"slices"

	"garderobe/api"
	"garderobe/ends"
	"garderobe/ops"
)

// appendInstr: b with the bytes of an instruction behind it; of a number that is too great for its bytes the lowest ones.
func appendInstr(b []byte, x api.Instr) []byte {
	info, _ := ops.Of(x.Op)
	b = appendByte(b, byte(x.Op))
	switch info.Imm {
	case api.ImmByte:
		b = appendByte(b, byte(x.N))
	case api.ImmShort:
		b = appendWord(b, x.N)
	case api.ImmLocal, api.ImmKind:
		b = appendByte(b, byte(x.A))
	case api.ImmInc:
		b = appendByte(b, byte(x.A))
		b = appendByte(b, x.B)
	case api.ImmJump:
		b = appendJump(b, x.At, x.Jump)
	case api.ImmTable:
		b = appendJump(b, x.At, x.Jump)
		b = appendWord(b, x.Low)
		b = appendWord(b, x.Low+uint16(len(x.Table))-1)
		b = appendRows(b, x)
	case api.ImmLookup:
		b = appendJump(b, x.At, x.Jump)
		b = appendWord(b, uint16(len(x.Table)))
		b = appendRows(b, x)
	case api.ImmIface:
		b = appendByte(b, byte(x.A))
		b = appendWord(b, uint16(x.Pool))
		b = appendByte(b, x.B)
	case api.ImmCast:
		b = appendByte(b, byte(x.A))
		fallthrough
	case api.ImmPool:
		b = appendWord(b, uint16(x.Pool))
	}
	return b
}

// appendRows: b with the matches, as far as there are such, and places of a switch behind it.
func appendRows(b []byte, x api.Instr) []byte {
	for i, place := range x.Table {
		if i < len(x.Match) {
			b = appendWord(b, x.Match[i])
		}
		b = appendJump(b, x.At, place)
	}
	return b
}

// appendJump: b with how far it is from an instruction to a place behind it.
func appendJump(b []byte, from, to int) []byte {
	// Cut ahead of the difference, which might leave what an int holds.
	return appendWord(b, uint16(to)-uint16(from))
}

func appendByte(b []byte, n byte) []byte { return appendNumber(b, uint32(n), byteSize) }

func appendWord(b []byte, n uint16) []byte { return appendNumber(b, uint32(n), wordSize) }

// appendNumber: b with a number of a size behind it.
func appendNumber(b []byte, n uint32, size int) []byte {
	// Bytes and words are numbers of their sizes: ends has no error to tell.
	number, _ := ends.Put(n, size)
	return append(b, number...)
}

// same: are they the same in all fields?
func same(a, b api.Instr) bool {
	return a.At == b.At && a.Op == b.Op && a.A == b.A && a.B == b.B && a.N == b.N && a.Pool == b.Pool &&
		a.Jump == b.Jump && slices.Equal(a.Table, b.Table) && slices.Equal(a.Match, b.Match) && a.Low == b.Low
}
