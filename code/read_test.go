package code_test

import (
	"bytes"
	"slices"
	"testing"

	"garderobe/api"
	"garderobe/code"
)

// codes: codes that may be: each sample ahead of a return, behind others and by itself, all of them behind one another, and ways to and fro.
func codes() [][]byte {
	var l [][]byte
	var all []byte
	for _, s := range samples() {
		b := hx(s.b)
		l = append(l, b, append(bytes.Clone(b), 122), append(hx("10 05 11 00 01 00"), b...))
		all = append(all, b...)
	}
	l = append(l, all, nops(1), nops(2000), append(nops(1997), 112, 248, 51))
	l = append(l, hx("73 00 0f ff ff 00 01 00 00 00 0f 00 10 03 04 05 7a"), hx("75 00 0d 00 02 ff ff 00 0d 00 03 00 00 7a"))
	l = append(l, hx("70 00 03 70 00 03 70 ff fa"), hx("71 00 04 7a 28 05 72 05"))
	return append(l, ordinary()...)
}

// said: what the chapter says word for word of bytes, by plain steps, so that the tests don't lean on what they test.
func said(b []byte) ([]api.Instr, api.Errno) {
	if len(b) > 2000 {
		return nil, api.ErrLimit
	}
	if len(b) == 0 {
		return nil, api.ErrForm
	}
	var l []api.Instr
	var named []int
	begin := map[int]int{}
	for at := 0; at < len(b); {
		x, size, e := saidOne(b, at)
		if e != api.OK {
			return nil, e
		}
		if leads(x.Op) {
			named = append(append(named, x.Jump), x.Table...)
		}
		l, begin[at], at = append(l, x), 1, at+size
	}
	for _, place := range named {
		if begin[place] == 0 {
			return nil, api.ErrForm
		}
	}
	return l, api.OK
}

// saidOne: what the chapter says of the instruction at a place, and how many bytes it has.
func saidOne(b []byte, at int) (api.Instr, int, api.Errno) {
	imm, ok := immOf(b[at])
	if !ok {
		return api.Instr{}, 0, api.ErrForm
	}
	// Bytes behind the end are 0 here; what needs one of them is told below.
	c := append(bytes.Clone(b[at:]), make([]byte, 2000)...)
	one := func(i int) int { return int(c[i]) }
	two := func(i int) int { return one(i)*256 + one(i+1) }
	signed := func(i int) int { return (two(i)+32768)%65536 - 32768 }
	size := map[api.Imm]int{
		api.NoImm: 1, api.ImmByte: 2, api.ImmShort: 3, api.ImmLocal: 2, api.ImmInc: 3, api.ImmJump: 3,
		api.ImmTable: 7, api.ImmLookup: 5, api.ImmPool: 3, api.ImmIface: 5, api.ImmKind: 2, api.ImmCast: 4,
	}[imm]
	left := len(b) - at
	if left < size {
		return api.Instr{}, 0, api.ErrShort
	}
	x := api.Instr{At: at, Op: api.Op(c[0])}
	switch imm {
	case api.ImmByte:
		if x.N = uint16(one(1)); x.N >= 128 {
			x.N += 65536 - 256
		}
	case api.ImmShort:
		x.N = uint16(two(1))
	case api.ImmLocal:
		x.A = one(1)
	case api.ImmInc:
		x.A, x.B = one(1), c[2]
	case api.ImmJump:
		x.Jump = at + signed(1)
	case api.ImmTable:
		x.Jump, x.Low = at+signed(1), uint16(two(3))
		low, high := signed(3), signed(5)
		if high < low {
			return api.Instr{}, 0, api.ErrForm
		}
		if size += 2 * (high - low + 1); left < size {
			return api.Instr{}, 0, api.ErrShort
		}
		for i := 7; i < size; i += 2 {
			x.Table = append(x.Table, at+signed(i))
		}
	case api.ImmLookup:
		x.Jump = at + signed(1)
		if size += 4 * two(3); left < size {
			return api.Instr{}, 0, api.ErrShort
		}
		for i := 5; i < size; i += 4 {
			if i > 5 && signed(i) <= signed(i-4) {
				return api.Instr{}, 0, api.ErrForm
			}
			x.Match, x.Table = append(x.Match, uint16(two(i))), append(x.Table, at+signed(i+2))
		}
	case api.ImmPool:
		x.Pool = two(1)
	case api.ImmIface:
		x.A, x.Pool, x.B = one(1), two(2), c[4]
	case api.ImmKind:
		if x.A = one(1); x.A < 4 || x.A > 6 {
			return api.Instr{}, 0, api.ErrForm
		}
	case api.ImmCast:
		x.A, x.Pool = one(1), two(2)
		if x.A != 0 && x.A != 7 && (x.A < 4 || x.A > 6 || x.Pool != 0) {
			return api.Instr{}, 0, api.ErrForm
		}
	}
	return x, size, api.OK
}

// held: what Read answers of some bytes is what the chapter says of them.
func held(t *testing.T, b []byte) {
	t.Helper()
	want, f := said(b)
	l, e := code.Read(b)
	if !same(l, want) || e != f {
		t.Fatalf("Read(%x) = %v, %v, not %v, %v", b, l, e, want, f)
	}
}

// refused: Read answers an error of some bytes, and nothing beside it.
func refused(t *testing.T, b []byte, e api.Errno) {
	t.Helper()
	if l, f := code.Read(b); len(l) != 0 || f != e {
		t.Errorf("Read(%x) = %v, %v, not %v", b, l, f, e)
	}
}

// P6.1: the chapter's examples.
func TestReadExamples(t *testing.T) {
	l, e := code.Read(hx("03 7a"))
	if !same(l, []api.Instr{{Op: 3}, {At: 1, Op: 122}}) || e != api.OK {
		t.Errorf("Read(03 7a) = %v, %v", l, e)
	}
	refused(t, hx("09"), api.ErrForm)
	refused(t, hx("10"), api.ErrShort)
	l, e = code.Read(hx("70 00 00"))
	if !same(l, []api.Instr{{Op: 112}}) || e != api.OK {
		t.Errorf("Read(70 00 00) = %v, %v", l, e)
	}
	refused(t, hx("70 00 01"), api.ErrForm)
	refused(t, nil, api.ErrForm)
}

// P6.1: every field of each kind of instruction, wherever it stands; the others are zero.
func TestReadFields(t *testing.T) {
	for _, s := range samples() {
		for _, ahead := range []int{0, 1, 2, 255, 256, 1900} {
			for _, behind := range []int{0, 1, 3} {
				var want []api.Instr
				for i := range ahead {
					want = append(want, api.Instr{At: i})
				}
				want = append(want, s.moved(ahead))
				size := len(hx(s.b))
				for i := range behind {
					want = append(want, api.Instr{At: ahead + size + i})
				}
				b := slices.Concat(nops(ahead), hx(s.b), nops(behind))
				if l, e := code.Read(b); !same(l, want) || e != api.OK {
					t.Errorf("Read of %s behind %d: %v, %v", s.b, ahead, l, e)
				}
			}
		}
	}
}

// P6.1: each of the 102 instructions, and each number that is none, also behind others, and where bytes follow that are too few for nothing.
func TestReadNumbers(t *testing.T) {
	count := 0
	for _, b := range ordinary() {
		count++
		held(t, b)
		if l, e := code.Read(b); len(l) != 1 || e != api.OK {
			t.Errorf("Read(%x) = %v, %v", b, l, e)
		}
	}
	if count != 102 {
		t.Errorf("%d instructions", count)
	}
	for n := range 256 {
		if _, ok := immOf(byte(n)); ok {
			continue
		}
		for _, ahead := range []string{"", "00", "11 00 00", "75 00 00 00 00"} {
			for _, behind := range []string{"", "00", "00 00 00 00 00 00 00 00"} {
				refused(t, slices.Concat(hx(ahead), []byte{byte(n)}, hx(behind)), api.ErrForm)
			}
		}
	}
}

// P6.1: each byte of bspush with its sign, each short of sspush as it is.
func TestReadPushes(t *testing.T) {
	for n := range 65536 {
		want := api.Instr{Op: 17, N: uint16(n)}
		if l, e := code.Read([]byte{17, byte(n / 256), byte(n)}); !same(l, []api.Instr{want}) || e != api.OK {
			t.Fatalf("Read of sspush %d: %v, %v", n, l, e)
		}
	}
	for n := range 256 {
		want := api.Instr{Op: 16, N: uint16(n)}
		if n >= 128 {
			want.N = uint16(n + 65280)
		}
		if l, e := code.Read([]byte{16, byte(n)}); !same(l, []api.Instr{want}) || e != api.OK {
			t.Errorf("Read of bspush %d: %v, %v", n, l, e)
		}
	}
}

// P6.1: codes of none, of one byte, of as many as there may be, and of more.
func TestReadLimits(t *testing.T) {
	refused(t, nil, api.ErrForm)
	refused(t, []byte{}, api.ErrForm)
	for _, n := range []int{1, 2, 1999, 2000} {
		if l, e := code.Read(nops(n)); len(l) != n || e != api.OK || l[n-1].At != n-1 {
			t.Errorf("Read of %d: %d, %v", n, len(l), e)
		}
	}
	for _, n := range []int{2001, 2002, 4000, 65536, 1 << 20} {
		refused(t, nops(n), api.ErrLimit)
	}
	// What else is wrong with bytes that are too many is not told.
	refused(t, append(nops(2000), 9), api.ErrLimit)
	refused(t, append([]byte{9}, nops(2000)...), api.ErrLimit)
	refused(t, append(nops(2000), 16), api.ErrLimit)
	refused(t, append(nops(1999), 16), api.ErrShort)
	refused(t, append(nops(1999), 9), api.ErrForm)
	// The greatest switches that there is room for.
	table := slices.Concat(hx("73 00 00 fe 10 01 f3"), make([]byte, 2*996), hx("00"))
	if l, e := code.Read(table); len(l) != 2 || e != api.OK || len(l[0].Table) != 996 || l[1].At != 1999 {
		t.Errorf("Read of a table of 996: %v, %v", l, e)
	}
	lookup := hx("75 00 00 01 f2")
	for n := range 498 {
		lookup = append(lookup, byte((n+65287)/256), byte(n+65287), 0, 0)
	}
	if l, e := code.Read(lookup); len(l) != 1 || e != api.OK || len(l[0].Table) != 498 || l[0].Match[0] != 65287 || l[0].Match[497] != 248 {
		t.Errorf("Read of a lookup of 498: %v, %v", l, e)
	}
}

// P6.1: bytes that end at each place within an instruction, by itself and behind others.
func TestReadShort(t *testing.T) {
	var all [][]byte
	for _, s := range samples() {
		all = append(all, hx(s.b))
	}
	for _, b := range append(all, ordinary()...) {
		for n := 1; n < len(b); n++ {
			refused(t, b[:n], api.ErrShort)
			refused(t, append(hx("00 11 00 00"), b[:n]...), api.ErrShort)
		}
	}
	refused(t, hx("73 00 00 80 00 7f ff"), api.ErrShort)
	refused(t, slices.Concat(hx("73 00 00 80 00 7f ff"), make([]byte, 1993)), api.ErrShort)
	refused(t, slices.Concat(hx("75 00 00 ff ff"), make([]byte, 1995)), api.ErrShort)
}

// P6.1: each Kind, with each of some pools.
func TestReadKinds(t *testing.T) {
	for kind := range 256 {
		arrays := kind == 4 || kind == 5 || kind == 6
		if b := []byte{144, byte(kind)}; arrays {
			held(t, b)
		} else {
			refused(t, b, api.ErrForm)
		}
		for _, op := range []byte{148, 149} {
			for _, pool := range [][]byte{{0, 0}, {0, 1}, {1, 0}, {0, 255}, {128, 0}, {255, 255}} {
				b := append([]byte{op, byte(kind)}, pool...)
				if kind == 0 || kind == 7 || arrays && pool[0] == 0 && pool[1] == 0 {
					held(t, b)
					if l, e := code.Read(b); len(l) != 1 || l[0].A != kind || e != api.OK {
						t.Errorf("Read(%x) = %v, %v", b, l, e)
					}
				} else {
					refused(t, b, api.ErrForm)
				}
			}
		}
	}
}

// P6.1: a table's lowest and highest one by their worths.
func TestReadTables(t *testing.T) {
	edges := []int{-32768, -32767, -256, -2, -1, 0, 1, 2, 255, 256, 32766, 32767}
	for _, low := range edges {
		for _, high := range edges {
			b := []byte{115, 0, 0, byte(low >> 8), byte(low), byte(high >> 8), byte(high)}
			rows := high - low + 1
			switch {
			case rows < 1:
				refused(t, b, api.ErrForm)
				refused(t, append(b, make([]byte, 20)...), api.ErrForm)
			case rows < 600:
				whole := append(b, make([]byte, 2*rows)...)
				l, e := code.Read(whole)
				if len(l) != 1 || e != api.OK || len(l[0].Table) != rows || l[0].Low != uint16(low) {
					t.Errorf("Read of a table from %d to %d: %v, %v", low, high, l, e)
				}
				held(t, append(whole, 122))
				refused(t, whole[:len(whole)-1], api.ErrShort)
			default:
				refused(t, append(b, make([]byte, 1500)...), api.ErrShort)
			}
		}
	}
}

// P6.1: matches rise by their worths.
func TestReadLookups(t *testing.T) {
	edges := []int{-32768, -32767, -256, -2, -1, 0, 1, 2, 255, 256, 32766, 32767}
	for _, x := range edges {
		for _, y := range edges {
			row := func(n int) []byte { return []byte{byte(n >> 8), byte(n), 0, 0} }
			two := slices.Concat(hx("75 00 00 00 02"), row(x), row(y))
			last := slices.Concat(hx("75 00 00 00 03 80 00 00 00"), row(x), row(y))
			if x < y {
				held(t, two)
				if l, e := code.Read(two); len(l) != 1 || e != api.OK || !slices.Equal(l[0].Match, []uint16{uint16(x), uint16(y)}) {
					t.Errorf("Read(%x) = %v, %v", two, l, e)
				}
			} else {
				refused(t, two, api.ErrForm)
			}
			held(t, last)
			if x >= y {
				refused(t, last, api.ErrForm)
			}
			// A last match that is cut off is not there: what ends too soon is told ahead of matches that do not rise.
			refused(t, two[:len(two)-1], api.ErrShort)
		}
	}
}

// P6.1: jumps to the first, the last and the very same instruction, and such into the midst of one, ahead of the first and behind the last one.
func TestReadJumps(t *testing.T) {
	// sconst_0, bspush, sspush, a jump at 6, sspush, return at 12.
	begins := []int{0, 1, 3, 6, 9, 12}
	for op := range 256 {
		if imm, ok := immOf(byte(op)); !ok || imm != api.ImmJump {
			continue
		}
		for place := -300; place <= 300; place++ {
			far := place - 6
			b := slices.Concat(hx("03 10 05 11 00 01"), []byte{byte(op), byte(far >> 8), byte(far)}, hx("11 00 02 7a"))
			if !slices.Contains(begins, place) {
				refused(t, b, api.ErrForm)
				continue
			}
			l, e := code.Read(b)
			if e != api.OK || len(l) != 6 || l[3].Jump != place {
				t.Errorf("Read(%x) = %v, %v", b, l, e)
			}
		}
		for _, far := range []int{-32768, -32767, -2000, 2000, 32766, 32767} {
			refused(t, slices.Concat(nops(1000), []byte{byte(op), byte(far >> 8), byte(far)}), api.ErrForm)
		}
	}
	far, e := code.Read(slices.Concat(hx("70 07 cd"), nops(1994), hx("70 f8 33")))
	if e != api.OK || far[0].Jump != 1997 || far[len(far)-1].Jump != 0 {
		t.Errorf("Read of jumps over the whole: %v, %v", far, e)
	}
}

// P6.1: each place that a switch names, the default one too.
func TestReadSwitchPlaces(t *testing.T) {
	table, lookup := hx("00 00 73 00 00 ff ff 00 01 00 00 00 00 00 00 11 00 01 7a"), hx("00 00 75 00 00 00 02 ff ff 00 00 00 03 00 00 11 00 01 7a")
	for _, c := range []struct {
		b  []byte
		at []int
	}{{table, []int{3, 9, 11, 13}}, {lookup, []int{3, 9, 13}}} {
		for i, at := range c.at {
			for place := -20; place <= 40; place++ {
				b := bytes.Clone(c.b)
				b[at], b[at+1] = byte((place-2)>>8), byte(place-2)
				if !slices.Contains([]int{0, 1, 2, 15, 18}, place) {
					refused(t, b, api.ErrForm)
					continue
				}
				held(t, b)
				l, e := code.Read(b)
				if e != api.OK || i == 0 && l[2].Jump != place || i > 0 && l[2].Table[i-1] != place {
					t.Errorf("Read(%x) = %v, %v", b, l, e)
				}
			}
		}
	}
}

// P6.1: which error comes first where more than one would.
func TestReadFirstError(t *testing.T) {
	for _, c := range []struct {
		b string
		e api.Errno
	}{
		{"09 10", api.ErrForm}, {"10 00 09 10", api.ErrForm}, {"70 00 01 10", api.ErrShort}, {"70 00 01 09", api.ErrForm}, {"70 7f ff 11 00", api.ErrShort}, {"70 00 02 75 00 00 00 01", api.ErrShort},
		{"90 03 10", api.ErrForm}, {"90 04 10", api.ErrShort}, {"90", api.ErrShort}, {"94 03", api.ErrShort}, {"94 03 00", api.ErrShort}, {"95 04 01", api.ErrShort}, {"95 04 01 00 10", api.ErrForm}, {"95 08 00 00 10", api.ErrForm},
		{"73 00 00 00 01 00", api.ErrShort}, {"73 00 00 00 01 00 00", api.ErrForm}, {"73 00 01 00 01 00 00 10", api.ErrForm}, {"73 00 01 00 01 00 01 00", api.ErrShort},
		{"75 00 00 00 03 00 03 00 00 00 03 00 00", api.ErrShort}, {"75 00 00 00 02 00 03 00 00 00 03 00 00 10", api.ErrForm}, {"75 00 00 00 02 00 03 00 00 00 03 00 00 09", api.ErrForm},
		{"75 00 01 00 01 00 03 00 00 10", api.ErrShort}, {"75 00 01 00 01 00 03 00", api.ErrShort},
	} {
		refused(t, hx(c.b), c.e)
	}
}

// A source of numbers that are the same each time.
type source uint64

func (s *source) below(n int) int {
	*s = *s*6364136223846793005 + 1442695040888963407
	return int(uint64(*s)>>33) % n
}

// P6.1: whole codes of all kinds of instructions, as they are and with a byte changed, left out, put in, or cut.
func TestReadAsSaid(t *testing.T) {
	s := source(7)
	parts := ordinary()
	for _, x := range samples() {
		parts = append(parts, hx(x.b))
	}
	fine := 0
	for range 20000 {
		var b []byte
		for range 1 + s.below(12) {
			b = append(b, parts[s.below(len(parts))]...)
		}
		held(t, b)
		at := s.below(len(b))
		switch s.below(5) {
		case 0:
			b[at] = byte(s.below(256))
		case 1:
			b[at] = byte(s.below(9))
		case 2:
			b = slices.Delete(b, at, at+1)
		case 3:
			b = slices.Insert(b, at, byte(s.below(150)))
		case 4:
			b = b[:at]
		}
		held(t, b)
		if _, e := said(b); e == api.OK {
			fine++
		}
	}
	if fine < 2000 {
		t.Errorf("only %d codes that may be", fine)
	}
}

// P6.1: all bytes of up to two, and of three about what jumps and casts have.
func TestReadFew(t *testing.T) {
	for x := range 256 {
		held(t, []byte{byte(x)})
		for y := range 256 {
			held(t, []byte{byte(x), byte(y)})
			for _, z := range []byte{0, 1, 3, 9, 16, 253, 254, 255} {
				held(t, []byte{byte(x), byte(y), z})
			}
		}
	}
}
