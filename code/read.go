package code

import (
	"errors"
	"strconv"

	"garderobe/api"
	"garderobe/ends"
	"garderobe/ops"
)

var errForm = errors.New("bytes that may not be")

// A misfit is the instruction, by its place, whose bytes may not be, and why.
type misfit struct {
	at  int
	why string
}

func (m misfit) Error() string {
	return errForm.Error() + " at " + strconv.Itoa(m.at) + ": " + m.why
}

func (m misfit) Unwrap() error { return errForm }

// A tail is bytes behind the number of the instruction at a place; fields are taken off its beginning. It is cut as long as they need, so that none of them ends too soon.
type tail struct {
	b  []byte
	at int
}

// readAll: the instructions that bytes are, one behind the other.
func readAll(b []byte) ([]api.Instr, error) {
	if len(b) == 0 {
		return nil, misfit{0, "no instruction"}
	}
	var l []api.Instr
	for at := 0; at < len(b); {
		x, next, err := readInstr(b, at)
		if err != nil {
			return nil, err
		}
		l, at = append(l, x), next
	}
	if err := checkWays(l, len(b)); err != nil {
		return nil, err
	}
	return l, nil
}

// readInstr: the instruction that begins at a place of the bytes, and the place behind it.
func readInstr(b []byte, at int) (x api.Instr, next int, err error) {
	info, e := ops.Of(api.Op(b[at]))
	if e != api.OK {
		return api.Instr{}, 0, misfit{at, "no instruction has this number"}
	}
	x = api.Instr{At: at, Op: info.Op}
	next = at + numberSize
	head, e := ends.Part(b, next, headSize(info.Imm))
	if e != api.OK {
		return api.Instr{}, 0, e
	}
	next += len(head)
	t := tail{head, at}
	rows := t.fillHead(&x, info.Imm)
	if rows < 0 {
		return api.Instr{}, 0, misfit{at, "a highest below the lowest"}
	}
	body, e := ends.Part(b, next, rows*rowSize(info.Imm))
	if e != api.OK {
		return api.Instr{}, 0, e
	}
	next += len(body)
	t = tail{body, at}
	t.fillRows(&x, info.Imm, rows)
	if err := check(x, info.Imm); err != nil {
		return api.Instr{}, 0, err
	}
	return x, next, nil
}

// fillHead: the fields that stand ahead of a switch's rows, and how many rows there are; below 0, if none could be so.
func (t *tail) fillHead(x *api.Instr, imm api.Imm) (rows int) {
	switch imm {
	case api.ImmByte:
		x.N = uint16(int8(t.takeByte()))
	case api.ImmShort:
		x.N = t.takeWord()
	case api.ImmLocal, api.ImmKind:
		x.A = int(t.takeByte())
	case api.ImmInc:
		x.A, x.B = int(t.takeByte()), t.takeByte()
	case api.ImmJump:
		x.Jump = t.takeJump()
	case api.ImmTable:
		x.Jump, x.Low = t.takeJump(), t.takeWord()
		return rowsTo(x.Low, t.takeWord())
	case api.ImmLookup:
		x.Jump = t.takeJump()
		return int(t.takeWord())
	case api.ImmIface:
		x.A, x.Pool, x.B = int(t.takeByte()), int(t.takeWord()), t.takeByte()
	case api.ImmCast:
		x.A = int(t.takeByte())
		fallthrough
	case api.ImmPool:
		x.Pool = int(t.takeWord())
	}
	return 0
}

// rowsTo: how many rows there are from the lowest to the highest one; below 0, if it is below.
func rowsTo(lowest, highest uint16) int {
	if worth(highest) < worth(lowest) {
		return -1
	}
	return worth(highest) - worth(lowest) + 1
}

// fillRows: the places, and the matches, of a switch.
func (t *tail) fillRows(x *api.Instr, imm api.Imm, rows int) {
	for range rows {
		if imm == api.ImmLookup {
			x.Match = append(x.Match, t.takeWord())
		}
		x.Table = append(x.Table, t.takeJump())
	}
}

// take: takes a number of a size off.
func (t *tail) take(size int) uint32 {
	n, _ := ends.Get(t.b, 0, size)
	t.b = t.b[size:]
	return n
}

func (t *tail) takeByte() byte { return byte(t.take(byteSize)) }

func (t *tail) takeWord() uint16 { return uint16(t.take(wordSize)) }

// takeJump: takes off how far it is to a place; the place.
func (t *tail) takeJump() int { return t.at + worth(t.takeWord()) }

// check: may the Kind of an instruction be, and its matches?
func check(x api.Instr, imm api.Imm) error {
	switch imm {
	case api.ImmCast:
		if byClass(x.A) {
			return nil
		}
		if x.Pool != 0 {
			return misfit{x.At, "a Kind that has no class"}
		}
		fallthrough
	case api.ImmKind:
		if !ofNumbers(x.A) {
			return misfit{x.At, "a Kind that is none"}
		}
	case api.ImmLookup:
		for i, m := range x.Match {
			if i > 0 && worth(m) <= worth(x.Match[i-1]) {
				return misfit{x.At, "matches that do not rise"}
			}
		}
	}
	return nil
}

// checkWays: may all places be led to, to which the instructions of so many bytes lead?
func checkWays(l []api.Instr, size int) error {
	begins := make([]bool, size)
	for _, x := range l {
		begins[x.At] = true
	}
	for _, x := range l {
		for _, place := range leadsTo(x) {
			if place < 0 || place >= size || !begins[place] {
				return misfit{x.At, "no instruction begins where it leads"}
			}
		}
	}
	return nil
}

// leadsTo: the places that an instruction names.
func leadsTo(x api.Instr) []int {
	if info, _ := ops.Of(x.Op); !info.Jumps {
		return nil
	}
	return append([]int{x.Jump}, x.Table...)
}
