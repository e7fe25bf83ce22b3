package pool_test

import (
	"bytes"
	"encoding/hex"
	"slices"
	"strings"
	"testing"

	"garderobe/api"
	"garderobe/pool"
)

// hx: bytes that are written as hexadecimal numbers, blanks between them.
func hx(s string) []byte {
	b, err := hex.DecodeString(strings.ReplaceAll(s, " ", ""))
	if err != nil {
		panic(err)
	}
	return b
}

// A sample is an entry and its bytes.
type sample struct {
	b string
	x api.Entry
}

// samples: entries of each Kind, of this package's and of an import's, written out by hand, with numbers at the ends of their ranges.
func samples() []sample {
	return []sample{
		{"01 00 00 00", api.Entry{Kind: api.PoolClass}},
		{"01 01 02 00", api.Entry{Kind: api.PoolClass, Class: 258}},
		{"01 00 ff 00", api.Entry{Kind: api.PoolClass, Class: 255}},
		{"01 7f ff 00", api.Entry{Kind: api.PoolClass, Class: 32767}},
		{"01 80 00 00", api.Entry{Kind: api.PoolClass, Class: 32768}},
		{"01 82 02 00", api.Entry{Kind: api.PoolClass, Class: 33282}},
		{"01 ff ff 00", api.Entry{Kind: api.PoolClass, Class: 65535}},
		{"02 00 00 00", api.Entry{Kind: api.PoolField}},
		{"02 00 01 02", api.Entry{Kind: api.PoolField, Class: 1, Token: 2}},
		{"02 7f ff ff", api.Entry{Kind: api.PoolField, Class: 32767, Token: 255}},
		{"02 80 00 01", api.Entry{Kind: api.PoolField, Class: 32768, Token: 1}},
		{"03 00 00 80", api.Entry{Kind: api.PoolVirtual, Token: 128}},
		{"03 03 04 05", api.Entry{Kind: api.PoolVirtual, Class: 772, Token: 5}},
		{"03 ff ff ff", api.Entry{Kind: api.PoolVirtual, Class: 65535, Token: 255}},
		{"04 00 00 00", api.Entry{Kind: api.PoolSuper}},
		{"04 06 07 08", api.Entry{Kind: api.PoolSuper, Class: 1543, Token: 8}},
		{"04 ff fe 7f", api.Entry{Kind: api.PoolSuper, Class: 65534, Token: 127}},
		{"05 00 00 00", api.Entry{Kind: api.PoolStatic, Own: true}},
		{"05 00 01 03", api.Entry{Kind: api.PoolStatic, Own: true, Number: 259}},
		{"05 00 ff ff", api.Entry{Kind: api.PoolStatic, Own: true, Number: 65535}},
		{"05 80 00 00", api.Entry{Kind: api.PoolStatic}},
		{"05 82 03 04", api.Entry{Kind: api.PoolStatic, Import: 2, ImportClass: 3, Token: 4}},
		{"05 ff ff ff", api.Entry{Kind: api.PoolStatic, Import: 127, ImportClass: 255, Token: 255}},
		{"06 00 00 00", api.Entry{Kind: api.PoolMethod, Own: true}},
		{"06 00 80 00", api.Entry{Kind: api.PoolMethod, Own: true, Number: 32768}},
		{"06 00 ff ff", api.Entry{Kind: api.PoolMethod, Own: true, Number: 65535}},
		{"06 80 00 00", api.Entry{Kind: api.PoolMethod}},
		{"06 81 04 05", api.Entry{Kind: api.PoolMethod, Import: 1, ImportClass: 4, Token: 5}},
		{"06 80 ff 00", api.Entry{Kind: api.PoolMethod, ImportClass: 255}},
		{"06 80 00 ff", api.Entry{Kind: api.PoolMethod, Token: 255}},
		{"06 ff 00 00", api.Entry{Kind: api.PoolMethod, Import: 127}},
	}
}

// spoilt: bytes in the place of an entry that are none, written out by hand.
func spoilt() []string {
	return []string{
		"00 00 00 00", "00 01 02 00", "00 80 00 00", "07 00 00 00", "07 01 02 03", "07 80 00 00", "08 00 00 00", "7f 00 00 00", "80 00 00 00", "81 00 00 00", "86 80 00 00", "ff ff ff ff",
		"01 00 00 01", "01 01 02 80", "01 80 00 ff", "01 ff ff 01",
		"05 01 00 00", "05 02 03 04", "05 7f ff ff", "05 40 00 00", "06 01 00 00", "06 01 04 05", "06 7f 00 00", "06 20 00 01",
	}
}

// wrong: what is no entry, by hand: Kinds that are none, and fields that are not the Kind's.
func wrong() []api.Entry {
	return []api.Entry{
		{}, {Class: 1}, {Token: 1}, {Own: true}, {Number: 1}, {Import: 1}, {ImportClass: 1}, {Kind: 7}, {Kind: 7, Class: 1}, {Kind: 7, Own: true}, {Kind: 127}, {Kind: 128}, {Kind: 129}, {Kind: 255},
		{Kind: 1, Token: 1}, {Kind: 1, Own: true}, {Kind: 1, Number: 1}, {Kind: 1, Import: 1}, {Kind: 1, ImportClass: 1}, {Kind: 1, Class: 258, Token: 255}, {Kind: 1, Number: 65535}, {Kind: 1, Number: 256}, {Kind: 1, Import: 128},
		{Kind: 2, Own: true}, {Kind: 2, Number: 1}, {Kind: 2, Import: 1}, {Kind: 2, ImportClass: 1}, {Kind: 2, Class: 1, Token: 2, Own: true}, {Kind: 2, Import: 128},
		{Kind: 3, Own: true}, {Kind: 3, Number: 1}, {Kind: 3, Import: 1}, {Kind: 3, ImportClass: 1}, {Kind: 3, Class: 1, Token: 2, Number: 256},
		{Kind: 4, Own: true}, {Kind: 4, Number: 1}, {Kind: 4, Import: 1}, {Kind: 4, ImportClass: 1}, {Kind: 4, Class: 1, Token: 2, ImportClass: 255},
		{Kind: 5, Class: 1}, {Kind: 5, Number: 1}, {Kind: 5, Number: 256}, {Kind: 5, Import: 128}, {Kind: 5, Import: 255}, {Kind: 5, Class: 256, Import: 1, ImportClass: 2, Token: 3},
		{Kind: 5, Own: true, Class: 1}, {Kind: 5, Own: true, Token: 1}, {Kind: 5, Own: true, Import: 1}, {Kind: 5, Own: true, ImportClass: 1}, {Kind: 5, Own: true, Number: 5, Import: 128},
		{Kind: 6, Class: 1}, {Kind: 6, Number: 1}, {Kind: 6, Number: 65535}, {Kind: 6, Import: 128}, {Kind: 6, Import: 255}, {Kind: 6, Import: 127, ImportClass: 2, Token: 3, Number: 1},
		{Kind: 6, Own: true, Class: 32768}, {Kind: 6, Own: true, Token: 255}, {Kind: 6, Own: true, Import: 127}, {Kind: 6, Own: true, ImportClass: 255}, {Kind: 6, Own: true, Number: 1, Class: 1},
	}
}

// isEntry: the chapter's words for word, so that the tests don't lean on what they test.
func isEntry(x api.Entry) bool {
	if x.Kind < 1 || x.Kind > 6 {
		return false
	}
	if x.Kind <= 4 {
		return (x.Kind > 1 || x.Token == 0) && !x.Own && x.Number == 0 && x.Import == 0 && x.ImportClass == 0
	}
	if x.Own {
		return x.Class == 0 && x.Import == 0 && x.ImportClass == 0 && x.Token == 0
	}
	return x.Class == 0 && x.Number == 0 && x.Import < 128
}

// entryBytes: of what is an entry.
func entryBytes(x api.Entry) []byte {
	switch {
	case x.Kind <= 4:
		return []byte{byte(x.Kind), byte(x.Class / 256), byte(x.Class % 256), x.Token}
	case x.Own:
		return []byte{byte(x.Kind), 0, byte(x.Number / 256), byte(x.Number % 256)}
	}
	return []byte{byte(x.Kind), 128 + x.Import, x.ImportClass, x.Token}
}

// readEntry: of four bytes, and are they one?
func readEntry(b []byte) (api.Entry, bool) {
	kind := api.PoolKind(b[0])
	last := uint16(b[2])*256 + uint16(b[3])
	switch k := b[0]; {
	case k == 1 && b[3] == 0, k >= 2 && k <= 4:
		return api.Entry{Kind: kind, Class: uint16(b[1])*256 + uint16(b[2]), Token: b[3]}, true
	case (k == 5 || k == 6) && b[1] == 0:
		return api.Entry{Kind: kind, Own: true, Number: last}, true
	case (k == 5 || k == 6) && b[1] >= 128:
		return api.Entry{Kind: kind, Import: b[1] - 128, ImportClass: b[2], Token: b[3]}, true
	}
	return api.Entry{}, false
}

func poolBytes(l []api.Entry) []byte {
	b := []byte{byte(len(l) / 256), byte(len(l) % 256)}
	for _, x := range l {
		b = append(b, entryBytes(x)...)
	}
	return b
}

func readPool(b []byte) ([]api.Entry, api.Errno) {
	if len(b) < 2 {
		return nil, api.ErrShort
	}
	count := int(b[0])*256 + int(b[1])
	if count > 255 {
		return nil, api.ErrLimit
	}
	b = b[2:]
	var l []api.Entry
	for range count {
		if len(b) < 4 {
			return nil, api.ErrShort
		}
		x, ok := readEntry(b)
		if !ok {
			return nil, api.ErrForm
		}
		l, b = append(l, x), b[4:]
	}
	if len(b) > 0 {
		return nil, api.ErrForm
	}
	return l, api.OK
}

// row: n entries, one behind the other of another Kind and other numbers, from a place of the samples on.
func row(n, from int) []api.Entry {
	var l []api.Entry
	for i := range n {
		l = append(l, samples()[(from+i*7)%len(samples())].x)
	}
	return l
}

// counts: how many entries there may be.
func counts() []int { return []int{0, 1, 2, 3, 7, 31, 127, 128, 254, 255} }

// isPut: Put answers these bytes.
func isPut(t *testing.T, l []api.Entry, want []byte) {
	t.Helper()
	if b, e := pool.Put(l); !bytes.Equal(b, want) || e != api.OK {
		t.Errorf("Put(%v) = %x, %v; not %x", l, b, e, want)
	}
}

// unput: Put refuses, with nothing beside the error.
func unput(t *testing.T, l []api.Entry, want api.Errno) {
	t.Helper()
	if b, e := pool.Put(l); len(b) != 0 || e != want {
		t.Errorf("Put(%v) = %x, %v; not %v", l, b, e, want)
	}
}

// isGot: Get answers these entries; they are compared field by field, as structs.
func isGot(t *testing.T, b []byte, want []api.Entry) {
	t.Helper()
	if l, e := pool.Get(b); !slices.Equal(l, want) || e != api.OK {
		t.Errorf("Get(%x) = %v, %v; not %v", b, l, e, want)
	}
}

// ungot: Get refuses, with nothing beside the error.
func ungot(t *testing.T, b []byte, want api.Errno) {
	t.Helper()
	if l, e := pool.Get(b); len(l) != 0 || e != want {
		t.Errorf("Get(%x) = %v, %v; not %v", b, l, e, want)
	}
}

// The Kinds by their names, as they are counted.
func TestKinds(t *testing.T) {
	for i, k := range []api.PoolKind{api.PoolClass, api.PoolField, api.PoolVirtual, api.PoolSuper, api.PoolStatic, api.PoolMethod} {
		x := api.Entry{Kind: k, Own: i >= 4}
		isPut(t, []api.Entry{x}, []byte{0, 1, byte(i + 1), 0, 0, 0})
		isGot(t, []byte{0, 1, byte(i + 1), 0, 0, 0}, []api.Entry{x})
	}
}

// P7.1: each sample, by itself, ahead of another one, behind it, twice, and all of them.
func TestExamples(t *testing.T) {
	isGot(t, hx("00 00"), nil)
	ungot(t, hx("00 01 07 00 00 00"), api.ErrForm)
	another := sample{"03 09 0a 0b", api.Entry{Kind: 3, Class: 2314, Token: 11}}
	var all []api.Entry
	var told string
	for _, s := range samples() {
		for _, c := range []struct {
			l []api.Entry
			b string
		}{
			{[]api.Entry{s.x}, "00 01" + s.b},
			{[]api.Entry{s.x, another.x}, "00 02" + s.b + another.b},
			{[]api.Entry{another.x, s.x}, "00 02" + another.b + s.b},
			{[]api.Entry{s.x, another.x, s.x}, "00 03" + s.b + another.b + s.b},
		} {
			isPut(t, c.l, hx(c.b))
			isGot(t, hx(c.b), c.l)
		}
		all, told = append(all, s.x), told+s.b
	}
	isPut(t, all, append([]byte{0, byte(len(all))}, hx(told)...))
	isGot(t, append([]byte{0, byte(len(all))}, hx(told)...), all)
}

// P7.1: no entries, nil or not.
func TestNone(t *testing.T) {
	isPut(t, nil, []byte{0, 0})
	isPut(t, []api.Entry{}, []byte{0, 0})
	isPut(t, make([]api.Entry, 0, 9), []byte{0, 0})
	ungot(t, nil, api.ErrShort)
	ungot(t, []byte{}, api.ErrShort)
}

// P7.1: none, one, many, as many as there may be.
func TestCounts(t *testing.T) {
	for _, n := range counts() {
		for from := range 5 {
			l := row(n, from)
			isPut(t, l, poolBytes(l))
			isGot(t, poolBytes(l), l)
		}
	}
}

// P7.1: more entries than there may be.
func TestLimit(t *testing.T) {
	for _, n := range []int{256, 257, 258, 510, 511, 512, 65535, 65536, 65537, 65791, 70000} {
		unput(t, row(n, n), api.ErrLimit)
	}
	for _, n := range []int{256, 257, 511, 512, 32767, 32768, 65535} {
		count := []byte{byte(n / 256), byte(n % 256)}
		ungot(t, count, api.ErrLimit)
		ungot(t, append(count, 7), api.ErrLimit)
		ungot(t, append(count, poolBytes(row(255, 0))[2:]...), api.ErrLimit)
		ungot(t, poolBytes(row(n, 0)), api.ErrLimit)
		ungot(t, append(poolBytes(row(n, 0)), 0), api.ErrLimit)
	}
}

// P7.1: what is no entry is refused wherever it stands, ahead of there being too many.
func TestPutWrong(t *testing.T) {
	for _, x := range wrong() {
		unput(t, []api.Entry{x}, api.ErrArg)
		for _, n := range []int{2, 3, 255, 256, 257, 300} {
			for _, at := range []int{0, 1, n / 2, n - 2, n - 1} {
				l := row(n, at)
				l[at] = x
				unput(t, l, api.ErrArg)
			}
		}
	}
}

// P7.1: each Kind that a byte holds, with each field zero and not.
func TestPutFields(t *testing.T) {
	for k := range 256 {
		for _, class := range []uint16{0, 1, 256, 32767, 32768, 65535} {
			for _, token := range []uint8{0, 1, 128, 255} {
				for _, own := range []bool{false, true} {
					for _, number := range []uint16{0, 1, 256, 65535} {
						for _, from := range []uint8{0, 1, 127, 128, 129, 255} {
							for _, ofClass := range []uint8{0, 1, 255} {
								checkPut(t, api.Entry{Kind: api.PoolKind(k), Class: class, Token: token, Own: own, Number: number, Import: from, ImportClass: ofClass})
							}
						}
					}
				}
			}
		}
	}
}

// checkPut: one entry, held against the chapter's words.
func checkPut(t *testing.T, x api.Entry) {
	t.Helper()
	if !isEntry(x) {
		unput(t, []api.Entry{x}, api.ErrArg)
		return
	}
	isPut(t, []api.Entry{x}, poolBytes([]api.Entry{x}))
}

// P7.1: each number of a class, of a package's static fields and methods.
func TestNumbers(t *testing.T) {
	for n := range 65536 {
		w, token := uint16(n), uint8(n*5+n/256)
		l := []api.Entry{
			{Kind: 1, Class: w}, {Kind: 2, Class: w, Token: token}, {Kind: 3, Class: w, Token: token}, {Kind: 4, Class: w, Token: token},
			{Kind: 5, Own: true, Number: w}, {Kind: 6, Own: true, Number: w},
			{Kind: 5, Import: uint8(n / 512), ImportClass: uint8(n), Token: token}, {Kind: 6, Import: uint8(n / 512), ImportClass: uint8(n), Token: token},
		}
		b := poolBytes(l)
		isPut(t, l, b)
		isGot(t, b, l)
	}
}

// P7.1: bytes that are no entry, at each place of a row.
func TestGetWrong(t *testing.T) {
	for _, s := range spoilt() {
		ungot(t, hx("00 01"+s), api.ErrForm)
		for _, n := range []int{2, 3, 255} {
			for _, at := range []int{0, 1, n / 2, n - 2, n - 1} {
				b := poolBytes(row(n, at))
				copy(b[2+4*at:], hx(s))
				ungot(t, b, api.ErrForm)
			}
		}
	}
}

// P7.1: each Kind and each byte behind it, with some behind these.
func TestGetBytes(t *testing.T) {
	some := []byte{0, 1, 127, 128, 255}
	for k := range 256 {
		for lead := range 256 {
			for _, y := range some {
				for _, z := range some {
					b := []byte{0, 1, byte(k), byte(lead), y, z}
					if x, ok := readEntry(b[2:]); ok {
						isGot(t, b, []api.Entry{x})
					} else {
						ungot(t, b, api.ErrForm)
					}
				}
			}
		}
	}
}

// P7.1: bytes that end within the count, at each place within an entry and between them; with bytes behind the cut that would do, which are not handed in.
func TestGetShort(t *testing.T) {
	for _, n := range counts() {
		b := poolBytes(row(n, n))
		for size := range b {
			ungot(t, b[:size], api.ErrShort)
			ungot(t, bytes.Clone(b[:size]), api.ErrShort)
		}
	}
	for _, s := range samples() {
		for size := range 6 {
			ungot(t, hx("00 01" + s.b)[:size], api.ErrShort)
		}
	}
}

// P7.1: bytes behind the last entry.
func TestGetLeft(t *testing.T) {
	for _, n := range counts() {
		b := poolBytes(row(n, n))
		for _, left := range []string{"00", "01", "ff", "00 00", "01 00 00", "01 00 00 00", "01 00 00 00 00", "00 01 01 00 00 00"} {
			ungot(t, append(bytes.Clone(b), hx(left)...), api.ErrForm)
		}
		if n > 0 {
			b[1]--
			ungot(t, b, api.ErrForm)
		}
	}
}

// P7.1: where more than one error would be, the one that stands ahead.
func TestGetFirst(t *testing.T) {
	for _, c := range []struct {
		b string
		e api.Errno
	}{
		{"01", api.ErrShort}, {"ff", api.ErrShort},
		{"01 00", api.ErrLimit}, {"01 00 07", api.ErrLimit}, {"01 01 07 00 00 00", api.ErrLimit}, {"ff ff", api.ErrLimit},
		{"00 01 07", api.ErrShort}, {"00 01 07 00 00", api.ErrShort}, {"00 01 00 00 00", api.ErrShort}, {"00 01 05 01 00", api.ErrShort},
		{"00 02 07 00 00 00", api.ErrForm}, {"00 02 07 00 00 00 01", api.ErrForm}, {"00 ff 01 00 00 01", api.ErrForm}, {"00 02 05 01 00 00 01 00", api.ErrForm},
		{"00 02 01 00 00 00 07", api.ErrShort}, {"00 02 01 00 00 00 07 00 00", api.ErrShort}, {"00 03 01 00 00 00 07 00 00 00 01", api.ErrForm},
		{"00 01 07 00 00 00 00", api.ErrForm}, {"00 01 01 00 00 00 07", api.ErrForm}, {"00 00 01", api.ErrForm},
	} {
		ungot(t, hx(c.b), c.e)
	}
}

// A stream of numbers that come one behind the other the same way each time.
type stream uint32

func (s *stream) below(n int) int {
	*s = *s*1664525 + 1013904223
	return int(uint64(*s) * uint64(n) >> 32)
}

// entry: one that may be.
func (s *stream) entry() api.Entry {
	x := api.Entry{Kind: api.PoolKind(1 + s.below(6))}
	switch {
	case x.Kind == 1:
		x.Class = uint16(s.below(65536))
	case x.Kind <= 4:
		x.Class, x.Token = uint16(s.below(65536)), uint8(s.below(256))
	case s.below(2) == 0:
		x.Own, x.Number = true, uint16(s.below(65536))
	default:
		x.Import, x.ImportClass, x.Token = uint8(s.below(128)), uint8(s.below(256)), uint8(s.below(256))
	}
	return x
}

// P7.1, P7.3: many rows, whole and spoilt, against the chapter's words: what may be is put and got, and what is got is put as the same bytes.
func TestMany(t *testing.T) {
	s := stream(7)
	for range 20000 {
		var l []api.Entry
		for range s.below(9) {
			l = append(l, s.entry())
		}
		b, e := pool.Put(l)
		if !bytes.Equal(b, poolBytes(l)) || e != api.OK {
			t.Fatalf("Put(%v) = %x, %v", l, b, e)
		}
		if again, e := pool.Get(b); !slices.Equal(again, l) || e != api.OK {
			t.Fatalf("Get(%x) = %v, %v", b, again, e)
		}
		for range 4 {
			checkGot(t, s.spoil(b))
		}
	}
}

// spoil: bytes like these, with one of them another one, more or fewer.
func (s *stream) spoil(b []byte) []byte {
	b = bytes.Clone(b)
	at := s.below(len(b))
	switch s.below(4) {
	case 0:
		return b[:at]
	case 1:
		return slices.Insert(b, at, byte(s.below(256)))
	case 2:
		b[at] = byte(s.below(8))
	default:
		b[at] = byte(s.below(256))
	}
	return b
}

// checkGot: some bytes, held against the chapter's words, and put again, if they are entries.
func checkGot(t *testing.T, b []byte) {
	t.Helper()
	want, e := readPool(b)
	if e != api.OK {
		ungot(t, b, e)
		return
	}
	isGot(t, b, want)
	l, _ := pool.Get(b)
	isPut(t, l, b)
}

// P7.3: what is put is got, and what is got is put as the same bytes.
func TestPutIsGot(t *testing.T) {
	for _, n := range counts() {
		for from := range len(samples()) {
			l := row(n, from)
			b, e := pool.Put(l)
			if e != api.OK {
				t.Fatalf("Put(%v): %v", l, e)
			}
			isGot(t, b, l)
			again, _ := pool.Get(b)
			isPut(t, again, b)
		}
	}
}

// What is handed in stays as it is, the room about it too, whatever becomes of the answer.
func TestHandedInStays(t *testing.T) {
	for _, n := range []int{0, 1, 5, 255, 256} {
		all := row(n+20, 3)
		was := slices.Clone(all)
		b, _ := pool.Put(all[5 : 5+n])
		spoilBytes(b)
		if !slices.Equal(all, was) {
			t.Errorf("Put of %d: %v was handed in, behind the call it is %v", n, was, all)
		}
		told := append(append([]byte("ahead"), poolBytes(row(n, 2))...), "behind these are others"...)
		before := bytes.Clone(told)
		l, _ := pool.Get(told[5 : 7+4*n])
		spoilEntries(l)
		l, _ = pool.Get(told[5 : 6+4*n])
		spoilEntries(l)
		if !bytes.Equal(told, before) {
			t.Errorf("Get of %d: %x was handed in, behind the call it is %x", n, before, told)
		}
	}
	l := wrong()
	for i := range l {
		_, _ = pool.Put(l[i : i+1])
	}
	if !slices.Equal(l, wrong()) {
		t.Errorf("what was refused is now %v", l)
	}
}

// spoilBytes: other bytes, in the room behind them too.
func spoilBytes(b []byte) {
	b = b[:cap(b)]
	for i := range b {
		b[i] ^= 255
	}
}

// spoilEntries: other entries, in the room behind them too.
func spoilEntries(l []api.Entry) {
	l = l[:cap(l)]
	for i := range l {
		l[i] = api.Entry{Kind: 99, Class: 99, Token: 99, Number: 99, Import: 99, ImportClass: 99}
	}
}

// Two answers share nothing, nor an answer and what it came from: what becomes of one is not seen in the other.
func TestAnswersApart(t *testing.T) {
	for _, n := range []int{0, 1, 2, 31, 255} {
		l := row(n, 1)
		b := poolBytes(l)
		put, _ := pool.Put(l)
		other, _ := pool.Put(l)
		spoilBytes(other)
		got, _ := pool.Get(b)
		others, _ := pool.Get(b)
		spoilEntries(others)
		isPut(t, row(n, 1), poolBytes(row(n, 1)))
		isGot(t, bytes.Clone(b), row(n, 1))
		spoilEntries(l)
		spoilBytes(b)
		if !bytes.Equal(put, poolBytes(row(n, 1))) {
			t.Errorf("Put's answer of %d became %x", n, put)
		}
		if !slices.Equal(got, row(n, 1)) {
			t.Errorf("Get's answer of %d became %v", n, got)
		}
	}
}
