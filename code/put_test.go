package code_test

import (
	"bytes"
	"math"
	"slices"
	"testing"

	"garderobe/api"
	"garderobe/code"
)

// unput: Put refuses, with nothing beside the error.
func unput(t *testing.T, why string, l []api.Instr) {
	t.Helper()
	if b, e := code.Put(l); len(b) != 0 || e != api.ErrArg {
		t.Errorf("%s: Put(%v) = %x, %v", why, l, b, e)
	}
}

// P6.2: each sample, written out by hand, by itself and at other places.
func TestPutExamples(t *testing.T) {
	for _, s := range samples() {
		if b, e := code.Put([]api.Instr{s.x}); !bytes.Equal(b, hx(s.b)) || e != api.OK {
			t.Errorf("Put(%v) = %x, %v", s.x, b, e)
		}
		ahead := []api.Instr{{Op: 17, N: 258}, {At: 3, Op: 3}}
		want := append(hx("11 01 02 03"), hx(s.b)...)
		if b, e := code.Put(append(ahead, s.moved(4))); !bytes.Equal(b, want) || e != api.OK {
			t.Errorf("Put(%v) behind others = %x, %v", s.x, b, e)
		}
	}
}

// P6.4: what is read is put as the same bytes, and what is put is read.
func TestReadIsPut(t *testing.T) {
	for _, b := range codes() {
		l, e := code.Read(b)
		if e != api.OK {
			t.Fatalf("Read(%x): %v", b, e)
		}
		put, e := code.Put(l)
		if !bytes.Equal(put, b) || e != api.OK {
			t.Errorf("Put of what is read of %x: %x, %v", b, put, e)
		}
		if again, e := code.Read(put); !same(again, l) || e != api.OK {
			t.Errorf("Read of what is put of %x: %v, %v", b, again, e)
		}
	}
}

// P6.4: a list without elements is as good as none.
func TestPutEmptyLists(t *testing.T) {
	l := []api.Instr{{Op: 3, Table: []int{}, Match: []uint16{}}, {At: 1, Op: 117, Jump: 0, Table: []int{}, Match: []uint16{}}}
	if b, e := code.Put(l); !bytes.Equal(b, hx("03 75 ff ff 00 00")) || e != api.OK {
		t.Errorf("Put = %x, %v", b, e)
	}
}

// P6.2: no instruction, numbers that are none, places that do not stand one behind the other.
func TestPutWrongPlaces(t *testing.T) {
	unput(t, "none", nil)
	unput(t, "none", []api.Instr{})
	for n := range 256 {
		if _, ok := immOf(byte(n)); !ok {
			unput(t, "no instruction", []api.Instr{{Op: api.Op(n)}})
			unput(t, "no instruction", []api.Instr{{Op: 3}, {At: 1, Op: api.Op(n)}})
			unput(t, "no instruction", []api.Instr{{Op: api.Op(n)}, {Op: 3}})
		}
	}
	for _, at := range []int{math.MinInt, -65536, -256, -1, 1, 2, 256, 65536, 1 << 32, math.MaxInt} {
		unput(t, "first", []api.Instr{{At: at}})
		unput(t, "first jump", []api.Instr{{At: at, Op: 112, Jump: at}})
		unput(t, "second", []api.Instr{{Op: 16, N: 5}, {At: 2 + at, Op: 122}})
		unput(t, "second jump", []api.Instr{{Op: 16, N: 5}, {At: 2 + at, Op: 112, Jump: 2 + at}})
	}
	unput(t, "turned", []api.Instr{{At: 1, Op: 3}, {Op: 3}})
	unput(t, "twice", []api.Instr{{Op: 3}, {Op: 3}})
	unput(t, "within", []api.Instr{{Op: 17}, {At: 1}, {At: 2}})
	unput(t, "a gap", []api.Instr{{Op: 3}, {At: 1}, {At: 3}})
}

// P6.2: as many bytes as there may be, and one more.
func TestPutLimits(t *testing.T) {
	line := func(n int) (l []api.Instr) {
		for i := range n {
			l = append(l, api.Instr{At: i})
		}
		return l
	}
	if b, e := code.Put(line(2000)); !bytes.Equal(b, nops(2000)) || e != api.OK {
		t.Errorf("Put of 2000: %d, %v", len(b), e)
	}
	unput(t, "2001", line(2001))
	unput(t, "many", line(70000))
	if b, e := code.Put(append(line(1998), api.Instr{At: 1998, Op: 16, N: 5})); len(b) != 2000 || e != api.OK {
		t.Errorf("Put of 2000: %d, %v", len(b), e)
	}
	unput(t, "2001 with a bspush", append(line(1999), api.Instr{At: 1999, Op: 16, N: 5}))
	for _, n := range []int{996, 997, 65536, 65537, 1 << 20} {
		x := api.Instr{Op: 115, Low: 32768, Table: make([]int, n)}
		if n == 996 {
			if b, e := code.Put([]api.Instr{x}); len(b) != 1999 || e != api.OK {
				t.Errorf("Put of a table of %d: %d, %v", n, len(b), e)
			}
			continue
		}
		unput(t, "a table", []api.Instr{x})
		unput(t, "a lookup", []api.Instr{{Op: 117, Table: make([]int, n), Match: make([]uint16, n)}})
	}
}

// P6.2: each field that an instruction has not must be zero; of each kind of instruction, each field, with each of some worths.
func TestPutFieldsMustBeZero(t *testing.T) {
	for _, b := range ordinary() {
		l, e := code.Read(b)
		if e != api.OK {
			t.Fatalf("Read(%x): %v", b, e)
		}
		imm, _ := immOf(b[0])
		has := map[api.Imm]string{
			api.ImmByte: "N", api.ImmShort: "N", api.ImmLocal: "A", api.ImmInc: "AB", api.ImmJump: "J", api.ImmTable: "JTL", api.ImmLookup: "JTM",
			api.ImmPool: "P", api.ImmIface: "APB", api.ImmKind: "A", api.ImmCast: "AP",
		}[imm]
		for field, set := range map[rune]func(x *api.Instr, n int){
			'A': func(x *api.Instr, n int) { x.A = n },
			'B': func(x *api.Instr, n int) { x.B = uint8(n)&255 | 1 },
			'N': func(x *api.Instr, n int) { x.N = uint16(n) | 1 },
			'P': func(x *api.Instr, n int) { x.Pool = n },
			'J': func(x *api.Instr, n int) { x.Jump = n },
			'T': func(x *api.Instr, n int) { x.Table = []int{n & 1} },
			'M': func(x *api.Instr, n int) { x.Match = []uint16{uint16(n)} },
			'L': func(x *api.Instr, n int) { x.Low = uint16(n) | 1 },
		} {
			if slices.Contains([]rune(has), field) {
				continue
			}
			for _, n := range []int{1, 2, 5, 255, 256, 65536, 1 << 32, -1, -256, math.MinInt, math.MaxInt} {
				x := twin(l)
				set(&x[0], n)
				unput(t, "a field of "+string(field), x)
			}
		}
	}
}

// P6.2: numbers that are too great for their bytes, or below 0.
func TestPutTooGreat(t *testing.T) {
	bytesToo := []int{256, 257, 260, 261, 263, 511, 512, 65536, 65540, 1 << 32, 1<<32 + 4, -1, -2, -249, -250, -252, -256, math.MinInt, math.MinInt + 4, math.MaxInt}
	for _, n := range bytesToo {
		for _, op := range []api.Op{21, 22, 40, 41, 114, 89, 142, 144, 148, 149} {
			unput(t, "A", []api.Instr{{Op: op, A: n}})
		}
	}
	for _, n := range []int{65536, 65537, 131071, 1 << 32, 1<<32 + 1, -1, -65535, -65536, math.MinInt, math.MaxInt} {
		for _, op := range []api.Op{123, 127, 131, 135, 139, 140, 141, 142, 143, 145, 148, 149} {
			unput(t, "Pool", []api.Instr{{Op: op, Pool: n}})
		}
	}
	for n := range 65536 {
		x := []api.Instr{{Op: 16, N: uint16(n)}}
		if n < 128 || n >= 65408 {
			if b, e := code.Put(x); !bytes.Equal(b, []byte{16, byte(n)}) || e != api.OK {
				t.Errorf("Put(%v) = %x, %v", x, b, e)
			}
			continue
		}
		unput(t, "bspush", x)
	}
}

// P6.2: Kinds that are none, and those that may not be with that pool.
func TestPutKinds(t *testing.T) {
	for kind := -1; kind <= 300; kind++ {
		arrays := kind == 4 || kind == 5 || kind == 6
		if _, e := code.Put([]api.Instr{{Op: 144, A: kind}}); (e == api.OK) != arrays {
			t.Errorf("Put of newarray %d: %v", kind, e)
		}
		if !arrays {
			unput(t, "newarray", []api.Instr{{Op: 144, A: kind}})
		}
		for _, op := range []api.Op{148, 149} {
			for _, pool := range []int{0, 1, 256, 65535} {
				x := []api.Instr{{Op: op, A: kind, Pool: pool}}
				if kind == 0 || kind == 7 || arrays && pool == 0 {
					want := []byte{byte(op), byte(kind), byte(pool >> 8), byte(pool)}
					if b, e := code.Put(x); !bytes.Equal(b, want) || e != api.OK {
						t.Errorf("Put(%v) = %x, %v", x, b, e)
					}
					continue
				}
				unput(t, "a cast", x)
			}
		}
	}
}

// P6.2: places that may not be led to.
func TestPutJumps(t *testing.T) {
	code0 := func(x api.Instr) []api.Instr {
		x.At = 3
		return []api.Instr{{Op: 17, N: 1}, x, {At: 3 + code.Size(x), Op: 122}}
	}
	for _, place := range []int{math.MinInt, math.MinInt + 3, -65536, -65533, -65530, -1, 1, 2, 4, 5, 65536, 65539, 65542, 1 << 32, 1<<32 + 3, math.MaxInt} {
		unput(t, "goto", code0(api.Instr{Op: 112, Jump: place}))
		unput(t, "ifeq", code0(api.Instr{Op: 96, Jump: place}))
		unput(t, "a default", code0(api.Instr{Op: 115, Jump: place, Table: []int{3}}))
		unput(t, "a default", code0(api.Instr{Op: 117, Jump: place}))
		unput(t, "a place", code0(api.Instr{Op: 115, Table: []int{0, place}}))
		unput(t, "a place", code0(api.Instr{Op: 117, Table: []int{0, place, 3}, Match: []uint16{1, 2, 3}}))
	}
	for _, place := range []int{0, 3, 6} {
		if _, e := code.Put(code0(api.Instr{Op: 112, Jump: place})); e != api.OK {
			t.Errorf("Put of goto %d: %v", place, e)
		}
	}
	unput(t, "behind the end", []api.Instr{{Op: 112, Jump: 3}})
	unput(t, "behind the end", []api.Instr{{Op: 117, Jump: 5}})
}

// P6.2: a Table and a Match of other lengths, a table that leaves the worths, matches that do not rise.
func TestPutSwitches(t *testing.T) {
	unput(t, "a table of none", []api.Instr{{Op: 115}})
	for _, low := range []uint16{1, 32767, 32768, 65535} {
		unput(t, "a table of none", []api.Instr{{Op: 115, Low: low}})
	}
	for n := 0; n <= 6; n++ {
		for m := 0; m <= 6; m++ {
			match := []uint16{65534, 65535, 0, 3, 4, 5}[:m]
			x := []api.Instr{{Op: 117, Table: make([]int, n), Match: match}}
			if n == m {
				if b, e := code.Put(x); len(b) != 5+4*n || e != api.OK {
					t.Errorf("Put(%v) = %x, %v", x, b, e)
				}
				continue
			}
			unput(t, "a Match of another length", x)
		}
	}
	for n := 1; n <= 9; n++ {
		x := []api.Instr{{Op: 115, Low: 32763, Table: make([]int, n)}}
		if n <= 5 {
			want := slices.Concat(hx("73 00 00 7f fb 7f"), []byte{byte(250 + n)}, make([]byte, 2*n))
			if b, e := code.Put(x); !bytes.Equal(b, want) || e != api.OK {
				t.Errorf("Put(%v) = %x, %v", x, b, e)
			}
			continue
		}
		unput(t, "a table above the greatest worth", x)
	}
	for _, match := range [][]uint16{{3, 3}, {3, 2}, {0, 65535}, {32767, 32768}, {1, 2, 2}, {2, 1, 3}, {1, 3, 2}} {
		unput(t, "matches", []api.Instr{{Op: 117, Table: make([]int, len(match)), Match: match}})
	}
}
