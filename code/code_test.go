package code_test

import (
	"bytes"
	"encoding/hex"
	"reflect"
	"slices"
	"strings"
	"testing"

	"garderobe/api"
	"garderobe/code"
)

// hx: bytes that are written as hexadecimal numbers, blanks between them.
func hx(s string) []byte {
	b, err := hex.DecodeString(strings.ReplaceAll(s, " ", ""))
	if err != nil {
		panic(err)
	}
	return b
}

// nops: n instructions that have their number alone.
func nops(n int) []byte { return make([]byte, n) }

// A sample is an instruction as it stands at the place 0, and its bytes.
type sample struct {
	b string
	x api.Instr
}

// samples: each kind of what may stand behind an instruction, written out by hand, with numbers at the ends of their ranges. None leads elsewhere but to the place 0.
func samples() []sample {
	return []sample{
		{"00", api.Instr{Op: 0}}, {"01", api.Instr{Op: 1}}, {"08", api.Instr{Op: 8}}, {"3e", api.Instr{Op: 62}}, {"5b", api.Instr{Op: 91}},
		{"77", api.Instr{Op: 119}}, {"78", api.Instr{Op: 120}}, {"7a", api.Instr{Op: 122}}, {"92", api.Instr{Op: 146}}, {"93", api.Instr{Op: 147}},
		{"10 00", api.Instr{Op: 16}}, {"10 01", api.Instr{Op: 16, N: 1}}, {"10 7f", api.Instr{Op: 16, N: 127}}, {"10 80", api.Instr{Op: 16, N: 65408}}, {"10 ff", api.Instr{Op: 16, N: 65535}},
		{"11 00 00", api.Instr{Op: 17}}, {"11 01 02", api.Instr{Op: 17, N: 258}}, {"11 7f ff", api.Instr{Op: 17, N: 32767}}, {"11 80 00", api.Instr{Op: 17, N: 32768}}, {"11 ff ff", api.Instr{Op: 17, N: 65535}},
		{"15 00", api.Instr{Op: 21}}, {"16 07", api.Instr{Op: 22, A: 7}}, {"28 80", api.Instr{Op: 40, A: 128}}, {"29 ff", api.Instr{Op: 41, A: 255}}, {"72 09", api.Instr{Op: 114, A: 9}},
		{"59 00 00", api.Instr{Op: 89}}, {"59 01 02", api.Instr{Op: 89, A: 1, B: 2}}, {"59 ff 80", api.Instr{Op: 89, A: 255, B: 128}}, {"59 00 ff", api.Instr{Op: 89, B: 255}},
		{"60 00 00", api.Instr{Op: 96}}, {"67 00 00", api.Instr{Op: 103}}, {"68 00 00", api.Instr{Op: 104}}, {"6f 00 00", api.Instr{Op: 111}}, {"70 00 00", api.Instr{Op: 112}}, {"71 00 00", api.Instr{Op: 113}},
		{"73 00 00 00 05 00 05 00 00", api.Instr{Op: 115, Low: 5, Table: []int{0}}},
		{"73 00 00 ff fe 00 01 00 00 00 00 00 00 00 00", api.Instr{Op: 115, Low: 65534, Table: []int{0, 0, 0, 0}}},
		{"73 00 00 80 00 80 01 00 00 00 00", api.Instr{Op: 115, Low: 32768, Table: []int{0, 0}}},
		{"73 00 00 7f fe 7f ff 00 00 00 00", api.Instr{Op: 115, Low: 32766, Table: []int{0, 0}}},
		{"73 00 00 7f ff 7f ff 00 00", api.Instr{Op: 115, Low: 32767, Table: []int{0}}},
		{"75 00 00 00 00", api.Instr{Op: 117}},
		{"75 00 00 00 01 01 02 00 00", api.Instr{Op: 117, Match: []uint16{258}, Table: []int{0}}},
		{"75 00 00 00 05 80 00 00 00 ff ff 00 00 00 00 00 00 00 01 00 00 7f ff 00 00", api.Instr{Op: 117, Match: []uint16{32768, 65535, 0, 1, 32767}, Table: []int{0, 0, 0, 0, 0}}},
		{"7b 00 00", api.Instr{Op: 123}}, {"81 01 02", api.Instr{Op: 129, Pool: 258}}, {"83 00 ff", api.Instr{Op: 131, Pool: 255}}, {"8b 7f ff", api.Instr{Op: 139, Pool: 32767}}, {"8d 80 00", api.Instr{Op: 141, Pool: 32768}}, {"8f ff ff", api.Instr{Op: 143, Pool: 65535}}, {"91 ff 00", api.Instr{Op: 145, Pool: 65280}},
		{"8e 00 00 00 00", api.Instr{Op: 142}}, {"8e 01 02 03 04", api.Instr{Op: 142, A: 1, Pool: 515, B: 4}}, {"8e ff 80 00 ff", api.Instr{Op: 142, A: 255, Pool: 32768, B: 255}},
		{"90 04", api.Instr{Op: 144, A: 4}}, {"90 05", api.Instr{Op: 144, A: 5}}, {"90 06", api.Instr{Op: 144, A: 6}},
		{"94 00 00 00", api.Instr{Op: 148}}, {"94 00 ff ff", api.Instr{Op: 148, Pool: 65535}}, {"95 07 00 00", api.Instr{Op: 149, A: 7}}, {"95 07 01 02", api.Instr{Op: 149, A: 7, Pool: 258}},
		{"94 04 00 00", api.Instr{Op: 148, A: 4}}, {"94 05 00 00", api.Instr{Op: 148, A: 5}}, {"95 06 00 00", api.Instr{Op: 149, A: 6}},
	}
}

// moved: an instruction as it stands so much further behind.
func (s sample) moved(by int) api.Instr {
	x := s.x
	x.At += by
	if leads(x.Op) {
		x.Jump += by
	}
	x.Table = slices.Clone(x.Table)
	for i := range x.Table {
		x.Table[i] += by
	}
	return x
}

// immOf: what stands behind each instruction, as chapter 5 says it; of what is none, api.NoImm and false.
func immOf(op byte) (api.Imm, bool) {
	switch n := int(op); {
	case n <= 8, n >= 24 && n <= 31, n >= 36 && n <= 38, n >= 43 && n <= 50, n >= 55 && n <= 57, n >= 59 && n <= 62,
		n >= 65 && n <= 75 && n%2 == 1, n >= 77 && n <= 87 && n%2 == 1, n == 91, n == 119, n == 120, n == 122, n == 146, n == 147:
		return api.NoImm, true
	case n == 16:
		return api.ImmByte, true
	case n == 17:
		return api.ImmShort, true
	case n == 21, n == 22, n == 40, n == 41, n == 114:
		return api.ImmLocal, true
	case n == 89:
		return api.ImmInc, true
	case n >= 96 && n <= 113:
		return api.ImmJump, true
	case n == 115:
		return api.ImmTable, true
	case n == 117:
		return api.ImmLookup, true
	case n >= 123 && n <= 125, n >= 127 && n <= 129, n >= 131 && n <= 133, n >= 135 && n <= 137, n >= 139 && n <= 141, n == 143, n == 145:
		return api.ImmPool, true
	case n == 142:
		return api.ImmIface, true
	case n == 144:
		return api.ImmKind, true
	case n == 148, n == 149:
		return api.ImmCast, true
	}
	return api.NoImm, false
}

// leads: does an instruction name places?
func leads(op api.Op) bool {
	imm, _ := immOf(byte(op))
	return imm == api.ImmJump || imm == api.ImmTable || imm == api.ImmLookup
}

// ordinary: for each of the 102 instructions bytes of one that may be, with numbers that differ from each other and lead nowhere else.
func ordinary() [][]byte {
	behind := map[api.Imm]string{
		api.NoImm: "", api.ImmByte: "c8", api.ImmShort: "81 02", api.ImmLocal: "83", api.ImmInc: "04 85", api.ImmJump: "00 00",
		api.ImmTable: "00 00 ff ff 00 01 00 00 00 00 00 00", api.ImmLookup: "00 00 00 02 ff fe 00 00 00 03 00 00",
		api.ImmPool: "86 07", api.ImmIface: "88 09 8a 0b", api.ImmKind: "05", api.ImmCast: "07 8c 0d",
	}
	var l [][]byte
	for n := range 256 {
		if imm, ok := immOf(byte(n)); ok {
			l = append(l, append([]byte{byte(n)}, hx(behind[imm])...))
		}
	}
	return l
}

// same: are they the same lists, without elements and nil too?
func same(a, b []api.Instr) bool {
	return slices.EqualFunc(a, b, func(x, y api.Instr) bool {
		return slices.Equal(x.Table, y.Table) && slices.Equal(x.Match, y.Match) && reflect.DeepEqual(bare(x), bare(y))
	})
}

// bare: all fields but the lists.
func bare(x api.Instr) api.Instr {
	x.Table, x.Match = nil, nil
	return x
}

// twin: a copy in memory of its own.
func twin(l []api.Instr) []api.Instr {
	l = slices.Clone(l)
	for i := range l {
		l[i].Table, l[i].Match = slices.Clone(l[i].Table), slices.Clone(l[i].Match)
	}
	return l
}

// guarded: b in the midst of other bytes, which stay as they are behind whatever f does.
func guarded(t *testing.T, b []byte, f func(b []byte)) {
	t.Helper()
	all := append(append([]byte("ahead"), b...), "behind"...)
	was := bytes.Clone(all)
	f(all[5 : 5+len(b)])
	if !bytes.Equal(all, was) {
		t.Errorf("%x was handed in, behind the call it is %x", was, all)
	}
}

// P6.2: written out by hand; of each instruction without rows it is what stands in chapter 5, whatever its fields say.
func TestSizeExamples(t *testing.T) {
	sizes := map[api.Imm]int{
		api.NoImm: 1, api.ImmByte: 2, api.ImmShort: 3, api.ImmLocal: 2, api.ImmInc: 3, api.ImmJump: 3,
		api.ImmTable: 7, api.ImmLookup: 5, api.ImmPool: 3, api.ImmIface: 5, api.ImmKind: 2, api.ImmCast: 4,
	}
	rows := map[api.Imm]int{api.ImmTable: 2, api.ImmLookup: 4}
	for n := range 256 {
		imm, ok := immOf(byte(n))
		for _, places := range []int{0, 1, 2, 7, 255, 256, 996, 1000, 70000} {
			want := 0
			if ok {
				want = sizes[imm] + rows[imm]*places
			}
			for _, x := range []api.Instr{{}, {At: -9, A: 300, B: 9, N: 9, Pool: -1, Jump: 77, Match: make([]uint16, 3), Low: 5}} {
				x.Op, x.Table = api.Op(n), make([]int, places)
				if got := code.Size(x); got != want {
					t.Errorf("Size of %d with %d places: %d", n, places, got)
				}
			}
		}
	}
}

// P6.4: the sizes of what is read are the code's together, and each instruction stands where the one ahead of it ends.
func TestSizesTogether(t *testing.T) {
	for _, b := range codes() {
		l, e := code.Read(b)
		if e != api.OK {
			t.Fatalf("Read(%x): %v", b, e)
		}
		at := 0
		for _, x := range l {
			if x.At != at {
				t.Errorf("Read(%x): one at %d, not at %d", b, x.At, at)
			}
			at += code.Size(x)
		}
		if at != len(b) {
			t.Errorf("Read(%x): sizes of %d together", b, at)
		}
	}
}

// P6.3: the number of each instruction of a code, -1 of each place within one, below 0 and behind the end.
func TestAtAsSaid(t *testing.T) {
	for _, b := range codes() {
		l, e := code.Read(b)
		if e != api.OK {
			t.Fatalf("Read(%x): %v", b, e)
		}
		for place := -4; place <= len(b)+4; place++ {
			want := -1
			for i := len(l) - 1; i >= 0; i-- {
				if l[i].At == place {
					want = i
				}
			}
			if got := code.At(l, place); got != want {
				t.Errorf("At(%x, %d) = %d", b, place, got)
			}
		}
	}
}

// P6.3: written out by hand: many, one and none; of lists that are no code the first one counts.
func TestAtExamples(t *testing.T) {
	l, _ := code.Read(hx("03 10 05 11 00 01 73 00 00 00 00 00 00 00 00 7a"))
	one, _ := code.Read(hx("7a"))
	odd := []api.Instr{{At: 7}, {At: -2}, {At: 3, Op: 9}, {At: 7}, {At: 3}, {}}
	for _, c := range []struct {
		l           []api.Instr
		place, want int
	}{
		{l, 0, 0}, {l, 1, 1}, {l, 2, -1}, {l, 3, 2}, {l, 4, -1}, {l, 5, -1}, {l, 6, 3}, {l, 7, -1}, {l, 14, -1}, {l, 15, 4}, {l, 16, -1}, {l, -1, -1},
		{l, 1 << 40, -1}, {l, -1 << 63, -1}, {l, 1<<63 - 1, -1}, {l, 1 << 32, -1},
		{one, 0, 0}, {one, 1, -1}, {one, -1, -1}, {nil, 0, -1}, {nil, -1, -1}, {[]api.Instr{}, 0, -1},
		{odd, 7, 0}, {odd, -2, 1}, {odd, 3, 2}, {odd, 0, 5}, {odd, 1, -1}, {odd, -1, -1},
	} {
		if got := code.At(c.l, c.place); got != c.want {
			t.Errorf("At(%d of them, %d) = %d", len(c.l), c.place, got)
		}
	}
}

// P6.3: written out by hand: many, one and none; of casts only where the Kind is 0 or 7.
func TestPoolsExamples(t *testing.T) {
	for _, c := range []struct {
		b string
		l []int
	}{
		{"7a", nil}, {"00 00 03 7a", nil}, {"10 05 11 00 01 15 02 59 01 02 70 00 00 90 04", nil}, {"73 00 00 00 00 00 00 00 00 75 00 00 00 00", nil},
		{"8f 00 01", []int{1}}, {"8e 01 00 02 03", []int{2}}, {"94 00 00 01", []int{2}}, {"95 07 00 01", []int{2}}, {"94 07 00 00", []int{2}}, {"95 00 00 00", []int{2}},
		{"94 04 00 00", nil}, {"94 05 00 00 95 06 00 00", nil}, {"00 7b 00 00 7a", []int{2}},
		{"8f 00 01 8e 02 00 03 01 94 00 00 02 94 04 00 00 7a", []int{1, 5, 10}},
		{"91 00 00 91 00 00 91 00 00", []int{1, 4, 7}}, {"95 06 00 00 95 07 00 00 95 00 00 00", []int{6, 10}},
		{"75 00 00 00 01 8f 8f 00 00 8d 8d 8d", []int{10}},
	} {
		if l, e := code.Pools(hx(c.b)); !slices.Equal(l, c.l) || e != api.OK {
			t.Errorf("Pools(%s) = %d, %v", c.b, l, e)
		}
	}
}

// P6.3: each instruction by itself, and at the end of others.
func TestPoolsAsSaid(t *testing.T) {
	for _, b := range ordinary() {
		var want []int
		switch imm, _ := immOf(b[0]); imm {
		case api.ImmPool:
			want = []int{1}
		case api.ImmIface, api.ImmCast:
			want = []int{2}
		}
		if l, e := code.Pools(b); !slices.Equal(l, want) || e != api.OK {
			t.Errorf("Pools(%x) = %d, %v", b, l, e)
		}
		ahead := hx("8f 00 00 00 8f 00 00")
		for i := range want {
			want[i] += len(ahead)
		}
		want = append([]int{1, 5}, want...)
		if l, e := code.Pools(append(ahead, b...)); !slices.Equal(l, want) || e != api.OK {
			t.Errorf("Pools of 3 and %x = %d, %v", b, l, e)
		}
	}
	full := bytes.Repeat(hx("8f 00 00"), 666)
	if l, e := code.Pools(full); len(l) != 666 || e != api.OK || l[0] != 1 || l[665] != 1996 {
		t.Errorf("Pools of 666: %d, %v", len(l), e)
	}
}

// P6.3: where Read has an error Pools has it, and nothing beside it.
func TestPoolsWrong(t *testing.T) {
	for _, c := range []struct {
		b []byte
		e api.Errno
	}{
		{nil, api.ErrForm}, {[]byte{}, api.ErrForm}, {hx("09"), api.ErrForm}, {hx("8f 00"), api.ErrShort}, {hx("8f 00 00 8f"), api.ErrShort}, {hx("8f 00 00 09"), api.ErrForm},
		{hx("8f 00 00 94 04 00 01"), api.ErrForm}, {hx("8f 00 00 94 08 00 00"), api.ErrForm}, {hx("8f 00 00 70 00 01"), api.ErrForm}, {nops(2001), api.ErrLimit},
	} {
		if l, e := code.Pools(c.b); len(l) != 0 || e != c.e {
			t.Errorf("Pools(%x) = %d, %v", c.b, l, e)
		}
	}
}

// What is handed in stays as it is, the room about it too, whatever becomes of the answer.
func TestHandedInStays(t *testing.T) {
	for _, b := range append(codes(), hx("09"), hx("10"), hx("70 00 01"), nil) {
		guarded(t, b, func(b []byte) {
			l, _ := code.Read(b)
			spoil(l)
			p, _ := code.Pools(b)
			for i := range p {
				p[i] = -7
			}
			_ = append(p, 7)
		})
	}
	for _, b := range codes() {
		l, _ := code.Read(b)
		room := append(twin(l), api.Instr{At: 77, Table: []int{7}}, api.Instr{At: 78})
		for i := range room {
			room[i].Table = append(slices.Clone(room[i].Table), 5, 6)[:len(room[i].Table)]
			room[i].Match = append(slices.Clone(room[i].Match), 5, 6)[:len(room[i].Match)]
		}
		given := room[:len(l)]
		got, e := code.Put(given)
		if e != api.OK {
			t.Fatalf("Put of %x: %v", b, e)
		}
		for i := range got {
			got[i] ^= 255
		}
		code.At(given, 5)
		for _, x := range given {
			code.Size(x)
			if m, n := len(x.Table), len(x.Match); !slices.Equal(x.Table[:m+2][m:], []int{5, 6}) || !slices.Equal(x.Match[:n+2][n:], []uint16{5, 6}) {
				t.Errorf("Put of %x: the room behind a list is another one", b)
			}
		}
		if !same(given, l) || room[len(l)].At != 77 || room[len(l)+1].At != 78 {
			t.Errorf("Put of %x: what was handed in is %v", b, room)
		}
	}
}

// spoil: other numbers in all that was answered, and behind it.
func spoil(l []api.Instr) {
	for i := range l {
		spoilLists(l[i])
		l[i].Op ^= 255
	}
	_ = append(l, api.Instr{At: -7})
}

// spoilLists: other numbers in the lists of one, and behind them.
func spoilLists(x api.Instr) {
	for i := range x.Table {
		x.Table[i] = -7
	}
	for i := range x.Match {
		x.Match[i] ^= 65535
	}
	_ = append(x.Table, -7)
	_ = append(x.Match, 77)
}

// No two answers share anything, nor does an answer with what was handed in, nor two lists of one answer.
func TestAnswersApart(t *testing.T) {
	for _, b := range codes() {
		given := bytes.Clone(b)
		was, _ := code.Read(given)
		kept := twin(was)
		other, _ := code.Read(given)
		spoil(other)
		for i := range given {
			given[i] ^= 255
		}
		if !same(was, kept) {
			t.Errorf("Read(%x): an answer is another one behind the call", b)
		}
		back, _ := code.Read(b)
		for i := range was {
			k := len(was) - 1 - i
			if !same(was[i:i+1], kept[i:i+1]) || !same(back[k:k+1], kept[k:k+1]) {
				t.Errorf("Read(%x): lists of one answer share memory", b)
			}
			spoilLists(was[i])
			spoilLists(back[k])
		}
		put, _ := code.Put(kept)
		second, _ := code.Put(kept)
		for i := range second {
			second[i] ^= 255
		}
		if !bytes.Equal(put, b) {
			t.Errorf("Put of %x: an answer is another one behind the call", b)
		}
		p, _ := code.Pools(b)
		q, _ := code.Pools(b)
		for i := range q {
			q[i]++
		}
		if r, _ := code.Pools(b); !slices.Equal(p, r) {
			t.Errorf("Pools(%x): an answer is another one behind the call", b)
		}
	}
}
