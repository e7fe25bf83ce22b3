package ends_test

import (
	"bytes"
	"math"
	"strings"
	"testing"

	"garderobe/api"
	"garderobe/ends"
)

// noSizes: what is no size of a number, some of it one if it were cut to eight or 32 bits.
func noSizes() []int {
	return []int{math.MinInt, -1 << 32, -4, -2, -1, 0, 3, 5, 6, 7, 8, 16, 256, 257, 258, 1<<32 + 1, 1<<32 + 2, 1<<32 + 4, math.MaxInt}
}

// noPlaces: places outside of n bytes.
func noPlaces(n int) []int {
	return []int{math.MinInt, -1 << 32, -n - 1, -1, n + 1, n + 2, 1<<32 + n, math.MaxInt - 1, math.MaxInt}
}

// numbers: numbers at which a byte more is used, and such as have another worth in each byte.
func numbers() []uint32 {
	return []uint32{
		0, 1, 2, 127, 128, 254, 255, 256, 257, 258, 511, 512, 4660, 32767, 32768, 65279, 65280, 65534, 65535,
		65536, 65537, 66051, 8388608, 16777215, 16777216, 16777217, 16909060, 67305985, 2147483647, 2147483648,
		2155905152, 4278190080, 4294901760, 4294967040, 4294967294, 4294967295,
	}
}

// below: the chapter's word for word, so that the tests don't lean on what they test.
func below(size int) uint64 {
	n := uint64(1)
	for ; size > 0; size-- {
		n *= 256
	}
	return n
}

// told: a number's bytes, by division.
func told(n uint64, size int) []byte {
	b := make([]byte, size)
	for i := size - 1; i >= 0; i-- {
		b[i], n = byte(n%256), n/256
	}
	return b
}

// made: n bytes of which each differs from those about it.
func made(n int) []byte {
	b := make([]byte, n)
	for i := range b {
		b[i] = byte(i*7 + i/256 + 1)
	}
	return b
}

// guarded: b in the midst of other bytes, which stay as they are behind whatever f does.
func guarded(t *testing.T, b []byte, f func(b []byte)) {
	all := append(append([]byte("ahead"), b...), "behind"...)
	was := bytes.Clone(all)
	f(all[5 : 5+len(b)])
	if !bytes.Equal(all, was) {
		t.Errorf("%x was handed in, behind the call it is %x", was, all)
	}
}

// P2.1: written out by hand, the chapter's examples among them.
func TestPutExamples(t *testing.T) {
	for _, c := range []struct {
		n    uint32
		size int
		b    string
		e    api.Errno
	}{
		{258, 2, "\x01\x02", api.OK}, {256, 1, "", api.ErrArg}, {1, 3, "", api.ErrArg},
		{0, 1, "\x00", api.OK}, {255, 1, "\xff", api.OK}, {4294967295, 1, "", api.ErrArg},
		{0, 2, "\x00\x00", api.OK}, {65535, 2, "\xff\xff", api.OK}, {65536, 2, "", api.ErrArg}, {4294967295, 2, "", api.ErrArg},
		{0, 4, "\x00\x00\x00\x00", api.OK}, {16909060, 4, "\x01\x02\x03\x04", api.OK}, {2147483648, 4, "\x80\x00\x00\x00", api.OK}, {4294967295, 4, "\xff\xff\xff\xff", api.OK},
		{0, 0, "", api.ErrArg}, {0, 3, "", api.ErrArg}, {1, -1, "", api.ErrArg}, {1, 8, "", api.ErrArg},
	} {
		if b, e := ends.Put(c.n, c.size); string(b) != c.b || e != c.e {
			t.Errorf("Put(%d, %d) = %x, %v", c.n, c.size, b, e)
		}
	}
}

// P2.1: every number of up to two bytes, and the edges above, at each size.
func TestPutAsSaid(t *testing.T) {
	check := func(n uint32, size int) {
		b, e := ends.Put(n, size)
		if uint64(n) >= below(size) {
			if len(b) != 0 || e != api.ErrArg {
				t.Fatalf("Put(%d, %d) = %x, %v", n, size, b, e)
			}
			return
		}
		if !bytes.Equal(b, told(uint64(n), size)) || e != api.OK {
			t.Fatalf("Put(%d, %d) = %x, %v", n, size, b, e)
		}
	}
	for _, size := range []int{1, 2, 4} {
		for n := range uint32(70000) {
			check(n, size)
		}
		for _, n := range numbers() {
			check(n, size)
		}
	}
}

// P2.1: written out by hand, the chapter's examples among them.
func TestGetExamples(t *testing.T) {
	for _, c := range []struct {
		b        string
		at, size int
		n        uint32
		e        api.Errno
	}{
		{"\x01\x02", 0, 2, 258, api.OK}, {"\x01\x02", 1, 2, 0, api.ErrShort}, {"", 1, 1, 0, api.ErrArg},
		{"\x01\x02", 0, 1, 1, api.OK}, {"\x01\x02", 1, 1, 2, api.OK}, {"\x01\x02", 2, 1, 0, api.ErrShort}, {"\x01\x02", 3, 1, 0, api.ErrArg},
		{"\x01\x02", 0, 4, 0, api.ErrShort}, {"\x01\x02", 2, 4, 0, api.ErrShort}, {"\x01\x02", -1, 1, 0, api.ErrArg},
		{"\x01\x02\x03\x04\x05", 0, 4, 16909060, api.OK}, {"\x01\x02\x03\x04\x05", 1, 4, 33752069, api.OK}, {"\x01\x02\x03\x04\x05", 2, 4, 0, api.ErrShort},
		{"\xff\xff\xff\xff", 0, 4, 4294967295, api.OK}, {"\x80\x00\x00\x00", 0, 4, 2147483648, api.OK}, {"\xff\x00", 0, 2, 65280, api.OK},
		{"", 0, 1, 0, api.ErrShort}, {"", 0, 2, 0, api.ErrShort}, {"", 0, 4, 0, api.ErrShort}, {"", 0, 0, 0, api.ErrArg}, {"\x01\x02\x03", 0, 3, 0, api.ErrArg},
	} {
		if n, e := ends.Get([]byte(c.b), c.at, c.size); n != c.n || e != c.e {
			t.Errorf("Get(%x, %d, %d) = %d, %v", c.b, c.at, c.size, n, e)
		}
	}
}

// P2.1: each size at each place, within and outside.
func TestGetAsSaid(t *testing.T) {
	for n := 0; n <= 12; n++ {
		b := made(n)
		for at := -3; at <= n+3; at++ {
			for _, size := range []int{1, 2, 4} {
				v, e := uint64(0), api.OK
				switch {
				case at < 0 || at > n:
					e = api.ErrArg
				case at+size > n:
					e = api.ErrShort
				default:
					for _, x := range b[at : at+size] {
						v = v*256 + uint64(x)
					}
				}
				if got, f := ends.Get(b, at, size); uint64(got) != v || f != e {
					t.Errorf("Get(%x, %d, %d) = %d, %v", b, at, size, got, f)
				}
			}
		}
	}
}

// P2.1: a size that there is not, and a place outside, come ahead of bytes that are too few, and nothing stands beside the error.
func TestNumbersWrong(t *testing.T) {
	for _, b := range [][]byte{nil, {}, {1}, made(4), made(40)} {
		for _, size := range noSizes() {
			for _, at := range append(noPlaces(len(b)), 0, len(b)) {
				if n, e := ends.Get(b, at, size); n != 0 || e != api.ErrArg {
					t.Errorf("Get(%x, %d, %d) = %d, %v", b, at, size, n, e)
				}
			}
		}
		for _, size := range []int{1, 2, 4} {
			for _, at := range noPlaces(len(b)) {
				if n, e := ends.Get(b, at, size); n != 0 || e != api.ErrArg {
					t.Errorf("Get(%x, %d, %d) = %d, %v", b, at, size, n, e)
				}
			}
		}
	}
	for _, size := range noSizes() {
		for _, n := range numbers() {
			if b, e := ends.Put(n, size); len(b) != 0 || e != api.ErrArg {
				t.Errorf("Put(%d, %d) = %x, %v", n, size, b, e)
			}
		}
	}
}

// P2.1: written out by hand.
func TestPartExamples(t *testing.T) {
	for _, c := range []struct {
		at, n int
		part  string
		e     api.Errno
	}{
		{0, 0, "", api.OK}, {0, 1, "a", api.OK}, {0, 3, "abc", api.OK}, {0, 4, "", api.ErrShort}, {1, 1, "b", api.OK}, {1, 2, "bc", api.OK}, {1, 3, "", api.ErrShort},
		{2, 1, "c", api.OK}, {3, 0, "", api.OK}, {3, 1, "", api.ErrShort}, {4, 0, "", api.ErrArg}, {4, 1, "", api.ErrArg}, {-1, 0, "", api.ErrArg}, {-1, 1, "", api.ErrArg},
		{0, -1, "", api.ErrArg}, {3, -1, "", api.ErrArg}, {3, -3, "", api.ErrArg}, {0, math.MinInt, "", api.ErrArg}, {4, math.MaxInt, "", api.ErrArg},
		{0, math.MaxInt, "", api.ErrShort}, {1, math.MaxInt, "", api.ErrShort}, {3, math.MaxInt, "", api.ErrShort}, {2, 1<<32 + 1, "", api.ErrShort}, {3, 1 << 32, "", api.ErrShort},
	} {
		if b, e := ends.Part([]byte("abc"), c.at, c.n); string(b) != c.part || e != c.e {
			t.Errorf("Part(abc, %d, %d) = %q, %v", c.at, c.n, b, e)
		}
	}
}

// P2.1: each part of some bytes, and each that leaves them.
func TestPartAsSaid(t *testing.T) {
	for size := 0; size <= 9; size++ {
		b := made(size)
		for at := -2; at <= size+2; at++ {
			for n := -2; n <= size+2; n++ {
				part, e := ends.Part(b, at, n)
				switch {
				case at < 0 || at > size || n < 0:
					if len(part) != 0 || e != api.ErrArg {
						t.Errorf("Part(%x, %d, %d) = %x, %v", b, at, n, part, e)
					}
				case at+n > size:
					if len(part) != 0 || e != api.ErrShort {
						t.Errorf("Part(%x, %d, %d) = %x, %v", b, at, n, part, e)
					}
				case string(part) != string(b)[at:at+n] || e != api.OK:
					t.Errorf("Part(%x, %d, %d) = %x, %v", b, at, n, part, e)
				}
			}
		}
		for _, at := range noPlaces(size) {
			if part, e := ends.Part(b, at, 0); len(part) != 0 || e != api.ErrArg {
				t.Errorf("Part(%x, %d, 0) = %x, %v", b, at, part, e)
			}
		}
	}
}

// P2.1: a part isn't held to a size: as many bytes as there are.
func TestPartLong(t *testing.T) {
	b := made(200000)
	if part, e := ends.Part(b, 1, len(b)-1); !bytes.Equal(part, b[1:]) || e != api.OK {
		t.Errorf("Part of %d bytes: %d bytes, %v", len(b), len(part), e)
	}
	if part, e := ends.Part(b, 1, len(b)); len(part) != 0 || e != api.ErrShort {
		t.Errorf("Part beyond %d bytes: %d bytes, %v", len(b), len(part), e)
	}
}

// P2.2: written out by hand, the chapter's example among them.
func TestPutRowExamples(t *testing.T) {
	for _, c := range []struct {
		b    string
		size int
		row  string
	}{
		{"a", 2, "\x00\x01a"}, {"a", 1, "\x01a"}, {"", 1, "\x00"}, {"", 2, "\x00\x00"}, {"\x00", 1, "\x01\x00"}, {"abc", 1, "\x03abc"}, {"abc", 2, "\x00\x03abc"},
		{strings.Repeat("z", 255), 1, "\xff" + strings.Repeat("z", 255)}, {strings.Repeat("z", 255), 2, "\x00\xff" + strings.Repeat("z", 255)},
		{strings.Repeat("z", 256), 2, "\x01\x00" + strings.Repeat("z", 256)}, {strings.Repeat("z", 65535), 2, "\xff\xff" + strings.Repeat("z", 65535)},
	} {
		if row, e := ends.PutRow([]byte(c.b), c.size); string(row) != c.row || e != api.OK {
			t.Errorf("PutRow of %d bytes, %d: %d bytes, %v", len(c.b), c.size, len(row), e)
		}
	}
}

// P2.2: more bytes than a row holds are above the limit; with a size that a row has not they are an error of the argument.
func TestPutRowWrong(t *testing.T) {
	for _, n := range []int{256, 257, 511, 512, 65535, 65536, 65537, 131072} {
		if row, e := ends.PutRow(make([]byte, n), 1); len(row) != 0 || e != api.ErrLimit {
			t.Errorf("PutRow of %d bytes, 1: %d bytes, %v", n, len(row), e)
		}
	}
	for _, n := range []int{65536, 65537, 65791, 131072, 1 << 24} {
		if row, e := ends.PutRow(make([]byte, n), 2); len(row) != 0 || e != api.ErrLimit {
			t.Errorf("PutRow of %d bytes, 2: %d bytes, %v", n, len(row), e)
		}
	}
	for _, size := range append(noSizes(), 4) {
		for _, n := range []int{0, 1, 4, 256, 65536} {
			if row, e := ends.PutRow(make([]byte, n), size); len(row) != 0 || e != api.ErrArg {
				t.Errorf("PutRow of %d bytes, %d: %d bytes, %v", n, size, len(row), e)
			}
		}
	}
}

// P2.2: written out by hand, the chapter's example among them.
func TestGetRowExamples(t *testing.T) {
	for _, c := range []struct {
		b        string
		at, size int
		row      string
		next     int
		e        api.Errno
	}{
		{"\x02a", 0, 1, "", 0, api.ErrShort},
		{"\x02ab", 0, 1, "ab", 3, api.OK}, {"\x02abc", 0, 1, "ab", 3, api.OK}, {"\x00", 0, 1, "", 1, api.OK}, {"\x00a", 0, 1, "", 1, api.OK}, {"x\x01\x00", 1, 1, "\x00", 3, api.OK},
		{"\x00\x01a", 0, 2, "a", 3, api.OK}, {"\x00\x00", 0, 2, "", 2, api.OK}, {"xy\x00\x02abc", 2, 2, "ab", 6, api.OK}, {"\x00\x02a", 0, 2, "", 0, api.ErrShort}, {"\x00", 0, 2, "", 0, api.ErrShort},
		{"\x01\x00a", 0, 2, "", 0, api.ErrShort}, {"\x01\x00" + strings.Repeat("z", 257), 0, 2, strings.Repeat("z", 256), 258, api.OK}, {"\x01\x00" + strings.Repeat("z", 255), 0, 2, "", 0, api.ErrShort},
		{"\xff" + strings.Repeat("z", 255), 0, 1, strings.Repeat("z", 255), 256, api.OK}, {"\xff" + strings.Repeat("z", 254), 0, 1, "", 0, api.ErrShort},
		{"\xff\xff" + strings.Repeat("z", 65535), 0, 2, strings.Repeat("z", 65535), 65537, api.OK}, {"\xff\xff" + strings.Repeat("z", 65534), 0, 2, "", 0, api.ErrShort},
		{"", 0, 1, "", 0, api.ErrShort}, {"", 0, 2, "", 0, api.ErrShort}, {"", 1, 1, "", 0, api.ErrArg}, {"\x00", 1, 1, "", 0, api.ErrShort}, {"\x00", 2, 1, "", 0, api.ErrArg},
		{"\x00\x00\x00\x01a", 0, 4, "", 0, api.ErrArg}, {"\x00\x00\x01a", 0, 3, "", 0, api.ErrArg}, {"a", 0, 0, "", 0, api.ErrArg},
	} {
		row, next, e := ends.GetRow([]byte(c.b), c.at, c.size)
		if string(row) != c.row || next != c.next || e != c.e {
			t.Errorf("GetRow of %d bytes, %d, %d: %d bytes, %d, %v", len(c.b), c.at, c.size, len(row), next, e)
		}
	}
}

// P2.2: each row at each place of some bytes.
func TestGetRowAsSaid(t *testing.T) {
	b := []byte{3, 0, 1, 0, 0, 0, 2, 9, 1, 255, 0, 3, 0}
	for at := -3; at <= len(b)+3; at++ {
		for _, size := range []int{1, 2} {
			row, next, e := []byte(nil), 0, api.OK
			if at < 0 || at > len(b) {
				e = api.ErrArg
			} else if at+size > len(b) {
				e = api.ErrShort
			} else {
				n := int(b[at])
				if size == 2 {
					n = n*256 + int(b[at+1])
				}
				if next = at + size + n; next > len(b) {
					next, e = 0, api.ErrShort
				} else {
					row = b[next-n : next]
				}
			}
			if r, n, f := ends.GetRow(b, at, size); !bytes.Equal(r, row) || n != next || f != e {
				t.Errorf("GetRow(%x, %d, %d) = %x, %d, %v", b, at, size, r, n, f)
			}
		}
	}
}

// P2.2: a size that a row has not, and a place outside, come ahead of bytes that are too few, and nothing stands beside the error.
func TestGetRowWrong(t *testing.T) {
	for _, b := range [][]byte{nil, {}, {0}, make([]byte, 4), {0, 0, 0, 1, 9}, {200}} {
		for _, size := range append(noSizes(), 4) {
			for _, at := range append(noPlaces(len(b)), 0, len(b)) {
				if row, next, e := ends.GetRow(b, at, size); len(row) != 0 || next != 0 || e != api.ErrArg {
					t.Errorf("GetRow(%x, %d, %d) = %x, %d, %v", b, at, size, row, next, e)
				}
			}
		}
		for _, size := range []int{1, 2} {
			for _, at := range noPlaces(len(b)) {
				if row, next, e := ends.GetRow(b, at, size); len(row) != 0 || next != 0 || e != api.ErrArg {
					t.Errorf("GetRow(%x, %d, %d) = %x, %d, %v", b, at, size, row, next, e)
				}
			}
		}
	}
}

// P2.3: a number that is put is got, with whatever bytes ahead of it and behind it.
func TestNumberPutIsGot(t *testing.T) {
	for _, size := range []int{1, 2, 4} {
		for _, n := range numbers() {
			if uint64(n) >= below(size) {
				continue
			}
			b, e := ends.Put(n, size)
			if e != api.OK {
				t.Fatalf("Put(%d, %d): %v", n, size, e)
			}
			for _, ahead := range []int{0, 1, 2, 3, 255, 256, 70000} {
				for _, behind := range []int{0, 1, 5} {
					all := append(append(made(ahead), b...), made(behind)...)
					if got, e := ends.Get(all, ahead, size); got != n || e != api.OK {
						t.Errorf("Get of %d at %d: %d, %v", n, ahead, got, e)
					}
					if part, e := ends.Part(all, ahead, size); !bytes.Equal(part, b) || e != api.OK {
						t.Errorf("Part of %d at %d: %x, %v", n, ahead, part, e)
					}
				}
			}
		}
	}
}

// P2.3: a row that is put is got, with whatever bytes ahead of it and behind it, and the place behind it is where the next one stands.
func TestRowPutIsGot(t *testing.T) {
	for _, size := range []int{1, 2} {
		for _, n := range []int{0, 1, 2, 3, 254, 255, 256, 257, 65534, 65535} {
			if uint64(n) >= below(size) {
				continue
			}
			row, e := ends.PutRow(made(n), size)
			if e != api.OK {
				t.Fatalf("PutRow of %d bytes, %d: %v", n, size, e)
			}
			for _, ahead := range []int{0, 1, 2, 3, 300} {
				for _, behind := range []int{0, 1, 5} {
					all := append(append(made(ahead), row...), made(behind)...)
					got, next, e := ends.GetRow(all, ahead, size)
					if !bytes.Equal(got, made(n)) || next != ahead+size+n || e != api.OK {
						t.Errorf("GetRow of %d bytes at %d: %d bytes, %d, %v", n, ahead, len(got), next, e)
					}
				}
			}
		}
	}
}

// P2.3: rows that stand behind one another are got one by one.
func TestRowsInTurn(t *testing.T) {
	texts := []string{"", "a", "", strings.Repeat("b", 255), "cde"}
	for _, size := range []int{1, 2} {
		var all []byte
		for _, x := range texts {
			row, _ := ends.PutRow([]byte(x), size)
			all = append(all, row...)
		}
		at := 0
		for _, x := range texts {
			row, next, e := ends.GetRow(all, at, size)
			if string(row) != x || e != api.OK {
				t.Fatalf("GetRow at %d: %d bytes, %v", at, len(row), e)
			}
			at = next
		}
		if at != len(all) {
			t.Errorf("behind the last row: %d of %d", at, len(all))
		}
	}
}

// What is handed in stays as it is, the bytes about it too, whatever becomes of the answer.
func TestHandedInStays(t *testing.T) {
	spoil := func(b []byte) {
		for i := range b {
			b[i] ^= 255
		}
		for range 8 {
			b = append(b, 170)
		}
		b = b[:cap(b)]
		for i := range b {
			b[i] = 85
		}
	}
	rows := []byte("\x00\x02abcd")
	for at := 0; at <= len(rows); at++ {
		for n := 0; at+n <= len(rows); n++ {
			guarded(t, rows, func(b []byte) {
				part, _ := ends.Part(b, at, n)
				spoil(part)
			})
		}
		for _, size := range []int{1, 2, 4} {
			guarded(t, rows, func(b []byte) {
				_, _ = ends.Get(b, at, size)
				row, _, _ := ends.GetRow(b, at, size)
				spoil(row)
			})
		}
	}
	for _, size := range []int{1, 2} {
		guarded(t, rows, func(b []byte) {
			row, _ := ends.PutRow(b, size)
			spoil(row)
		})
		guarded(t, nil, func(b []byte) {
			row, _ := ends.PutRow(b, size)
			spoil(row)
		})
	}
}

// Two answers share nothing: what becomes of one is not seen in another, whether called for again or of what it came from.
func TestAnswersApart(t *testing.T) {
	same := func(what string, call func() []byte) {
		a := call()
		was := string(a)
		b := call()
		for i := range b {
			b[i] ^= 255
		}
		_ = append(b, 170)
		if string(a) != was {
			t.Errorf("%s: one answer's bytes are another one's", what)
		}
		if c := call(); string(c) != was {
			t.Errorf("%s: %x, then %x", what, was, c)
		}
	}
	rows := []byte("\x00\x02abcd")
	for _, size := range []int{1, 2, 4} {
		same("Put", func() []byte { b, _ := ends.Put(7, size); return b })
	}
	for _, size := range []int{1, 2} {
		same("PutRow", func() []byte { b, _ := ends.PutRow(rows, size); return b })
		same("PutRow of nothing", func() []byte { b, _ := ends.PutRow(nil, size); return b })
		same("GetRow", func() []byte { b, _, _ := ends.GetRow(rows, 2-size, size); return b })
	}
	same("Part", func() []byte { b, _ := ends.Part(rows, 1, 3); return b })
	same("Part of all", func() []byte { b, _ := ends.Part(rows, 0, len(rows)); return b })
}

// What is handed in and changed behind the call isn't seen in the answer.
func TestAnswerStays(t *testing.T) {
	b := []byte("\x00\x02abcd")
	part, _ := ends.Part(b, 2, 3)
	row, _, _ := ends.GetRow(b, 0, 2)
	put, _ := ends.PutRow(b, 1)
	for i := range b {
		b[i] = 0
	}
	if string(part) != "abc" || string(row) != "ab" || string(put) != "\x06\x00\x02abcd" {
		t.Errorf("Part, GetRow, PutRow: %x, %x, %x", part, row, put)
	}
}

// No bytes are as good as no list.
func TestNoBytes(t *testing.T) {
	for _, b := range [][]byte{nil, {}} {
		if part, e := ends.Part(b, 0, 0); len(part) != 0 || e != api.OK {
			t.Errorf("Part = %x, %v", part, e)
		}
		if row, e := ends.PutRow(b, 1); string(row) != "\x00" || e != api.OK {
			t.Errorf("PutRow = %x, %v", row, e)
		}
		if _, e := ends.Get(b, 0, 1); e != api.ErrShort {
			t.Errorf("Get: %v", e)
		}
		if row, next, e := ends.GetRow(b, 0, 1); len(row) != 0 || next != 0 || e != api.ErrShort {
			t.Errorf("GetRow = %x, %d, %v", row, next, e)
		}
	}
}
