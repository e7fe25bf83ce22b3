package class_test

import (
	"bytes"
	"slices"
	"testing"

	"garderobe/api"
	"garderobe/class"
)

// isGot: Get answers these classes, and they are put as these bytes.
func isGot(t *testing.T, b []byte, want []api.Class) {
	t.Helper()
	l, e := class.Get(b)
	if !same(l, want) || e != api.OK {
		t.Errorf("Get(%x) = %v, %v; not %v", b, l, e, want)
		return
	}
	isPut(t, l, b)
}

// ungot: Get refuses, with nothing beside the error.
func ungot(t *testing.T, b []byte, want api.Errno) {
	t.Helper()
	if l, e := class.Get(b); len(l) != 0 || e != want {
		t.Errorf("Get(%x) = %v, %v; not %v", b, l, e, want)
	}
}

// checkGot: some bytes, held against the chapter's words.
func checkGot(t *testing.T, b []byte) {
	t.Helper()
	if want, e := readRow(b); e != api.OK {
		ungot(t, b, e)
	} else {
		isGot(t, b, want)
	}
}

// P8.2: the chapter's examples.
func TestGetExamples(t *testing.T) {
	isGot(t, hx("00"), nil)
	isGot(t, hx("01 01 00"), []api.Class{{Flags: 1, Super: 65535}})
	ungot(t, hx("01 08 00 00 00 00 00"), api.ErrForm)
	ungot(t, hx("01 08"), api.ErrShort)
	ungot(t, nil, api.ErrShort)
	ungot(t, []byte{}, api.ErrShort)
}

// P8.2: more classes than there may be, whatever stands behind.
func TestGetLimit(t *testing.T) {
	for n := 65; n < 256; n++ {
		ungot(t, []byte{byte(n)}, api.ErrLimit)
		ungot(t, []byte{byte(n), 8}, api.ErrLimit)
		ungot(t, append([]byte{byte(n)}, rowBytes(row(64, n))[1:]...), api.ErrLimit)
		ungot(t, rowBytes(row(n, n)), api.ErrLimit)
		ungot(t, append(rowBytes(row(n, n)), 0), api.ErrLimit)
	}
	ungot(t, []byte{64}, api.ErrShort)
}

// P8.2: more Ifaces than there may be, whatever stands behind.
func TestGetIfaces(t *testing.T) {
	for n := 17; n < 256; n++ {
		lead := []byte{1, 0, 0, 0, byte(n)}
		ungot(t, lead, api.ErrLimit)
		ungot(t, append(bytes.Clone(lead), 0), api.ErrLimit)
		ungot(t, append(bytes.Clone(lead), make([]byte, 3*n+2)...), api.ErrLimit)
		ungot(t, append(bytes.Clone(lead), make([]byte, 3*n+9)...), api.ErrLimit)
		lead[1] = 8
		ungot(t, lead, api.ErrLimit)
	}
	for n := range 17 {
		ungot(t, []byte{1, 0, 0, 0, byte(n)}, api.ErrShort)
		isGot(t, append([]byte{1, 0, 0, 0, byte(n)}, make([]byte, 3*n+2)...), []api.Class{{Ifaces: make([]api.Iface, n)}})
	}
}

// P8.2: what a kind does not have, as far as bytes can say it: an abstract interface, the one kind's lists behind the other's Flags.
func TestGetNotHas(t *testing.T) {
	for _, b := range []string{
		"01 05 00", "01 07 00", "01 05 01 03 00", "01 07 01 03 00",
		"01 01 00 00", "01 01 00 ff ff", "01 03 00 ff ff 00 00 00", "01 01 01 03 00 00 00 00", "01 01 00 00 01 03 00", "01 03 00 00 00 01 00 05",
		"01 00 00 00 00 00 00 00", "01 00 00 00 00 00 00 01 03 00", "01 04 00 00 00 00 00 01 00 00",
	} {
		ungot(t, hx(b), api.ErrForm)
	}
	isGot(t, hx("02 01 00 00 00 00 00 00 00"), []api.Class{{Flags: 1, Super: 65535}, {}})
}

// P8.2: types and signatures that are none, at each place of their list, with their own errors.
func TestGetTypes(t *testing.T) {
	for k := range 256 {
		for _, behind := range []string{"", "00", "00 00", "00 00 00", "01 02 00", "01 02 03 04"} {
			for _, ahead := range []string{
				"01 00 00 00 00 01", "01 00 00 00 00 02 03", "01 00 00 00 00 02 04 01 02",
				"01 01 01", "01 01 02 03 00", "01 01 01 00 01", "01 01 01 03 02 03", "01 01 02 08 01 02 02 07 04 01 02 00 01",
			} {
				checkGot(t, slices.Concat(hx(ahead), []byte{byte(k)}, hx(behind)))
			}
		}
		checkGot(t, slices.Concat(hx("01 03 01 00"), []byte{byte(k)}, repeat(byte(3), k)))
		checkGot(t, slices.Concat(hx("01 03 02 00 00 00"), []byte{byte(k)}, repeat(byte(3), k/2)))
	}
	ungot(t, hx("01 00 00 00 00 01 00 00"), api.ErrForm)
	ungot(t, hx("01 00 00 00 00 01 09"), api.ErrForm)
	ungot(t, hx("01 00 00 00 00 01 04 01"), api.ErrShort)
	ungot(t, hx("01 01 01 09 00"), api.ErrForm)
	ungot(t, hx("01 01 01 00 10"), api.ErrForm)
	ungot(t, hx("01 01 01 00 0f"), api.ErrShort)
	ungot(t, hx("01 01 01 00 01 00"), api.ErrForm)
}

// P8.2: bytes that end within the count, at each place within a class and between them; with bytes behind the cut that would do, which are not handed in.
func TestGetShort(t *testing.T) {
	for _, n := range counts() {
		b := rowBytes(row(n, n))
		for size := range b {
			ungot(t, b[:size], api.ErrShort)
			ungot(t, bytes.Clone(b[:size]), api.ErrShort)
		}
	}
	for _, s := range samples() {
		b := hx("01" + s.b)
		for size := range b {
			ungot(t, b[:size], api.ErrShort)
		}
	}
	// Of Flags that are none, too.
	for _, b := range []string{"01 08 00 00 00 00 00", "01 ff 01 03 00", "01 05 01 03 00", "02 08 00 00 01 00 00 00 00 00"} {
		for size := range hx(b) {
			ungot(t, hx(b)[:size], api.ErrShort)
			if size > 8 {
				break
			}
		}
	}
}

// P8.2: bytes behind the last class.
func TestGetLeft(t *testing.T) {
	for _, n := range counts() {
		b := rowBytes(row(n, n))
		for _, left := range []string{"00", "01", "ff", "00 00", "01 00", "00 00 00 00 00 00", "01 01 00"} {
			ungot(t, append(bytes.Clone(b), hx(left)...), api.ErrForm)
		}
		if n > 0 {
			b[0]--
			ungot(t, b, api.ErrForm)
		}
	}
}

// P8.2: where more than one error would be, the one that stands ahead; of a class that may not be, at its end.
func TestGetFirst(t *testing.T) {
	for _, c := range []struct {
		b string
		e api.Errno
	}{
		{"41", api.ErrLimit}, {"41 08 00 00 00 00 00", api.ErrLimit}, {"ff 00 00 00 11", api.ErrLimit}, {"41 00 00 00 00 01 09", api.ErrLimit},
		{"01 08 00", api.ErrShort}, {"01 08 00 00 00 00", api.ErrShort}, {"01 08 00 00 11", api.ErrLimit}, {"01 08 00 00 00 01 04", api.ErrShort}, {"01 08 00 00 01 00 00 02 00", api.ErrShort},
		{"01 09", api.ErrShort}, {"01 09 01 00", api.ErrShort}, {"01 05 01", api.ErrShort}, {"01 05 00 00", api.ErrForm},
		{"02 08 00 00 00 00 00", api.ErrForm}, {"02 08 00 00 00 00 00 00 00 00 11", api.ErrForm}, {"02 05 00 00", api.ErrForm}, {"40 05 00", api.ErrForm},
		{"02 00 00 00 00 00 00", api.ErrShort}, {"02 00 00 00 00 00 00 00 00 00 11", api.ErrLimit}, {"02 00 00 00 00 00 00 08", api.ErrShort}, {"02 01 00 05 00", api.ErrForm},
		{"01 00 00 00 11 00 00 00 01 09", api.ErrLimit}, {"02 00 00 00 00 01 09 00 00 00 00 11", api.ErrForm}, {"01 00 00 00 00 02 09 04", api.ErrForm}, {"01 00 00 00 00 02 04 00", api.ErrShort},
		{"01 00 00 00 01 00 00 03 00 00", api.ErrShort}, {"01 00 00 00 01 00", api.ErrShort}, {"01 00 00 00 00 ff", api.ErrShort}, {"01 00 00 00 00 00 ff ff", api.ErrShort}, {"01 00 00", api.ErrShort},
		{"01 01 02 00 10 00 00", api.ErrForm}, {"01 01 02 00 0f 00", api.ErrForm}, {"01 01 01 09", api.ErrForm}, {"01 01 02 00", api.ErrShort}, {"01 01 ff 00 00", api.ErrShort},
		{"00 08", api.ErrForm}, {"00 00", api.ErrForm}, {"00 01 00 00 00 11", api.ErrForm}, {"01 01 00 08 00 00 11", api.ErrForm},
	} {
		ungot(t, hx(c.b), c.e)
		if _, e := readRow(hx(c.b)); e != c.e {
			t.Errorf("%s is told as %v", c.b, e)
		}
	}
}

// P8.2: all bytes of up to five of those at which something changes, by themselves and within a class.
func TestGetBytes(t *testing.T) {
	some := []byte{0, 1, 2, 3, 4, 5, 8, 9, 15, 16, 17, 65, 255}
	var walk func(b []byte, more int)
	walk = func(b []byte, more int) {
		checkGot(t, b)
		if more == 0 {
			return
		}
		for _, x := range some {
			walk(append(bytes.Clone(b), x), more-1)
		}
	}
	for _, ahead := range []string{"", "01 00 00 00", "01 02 01 02 01", "01 04 00 03 00", "01 01", "02 03 01", "02 00 00 00 00 00 00"} {
		walk(hx(ahead), 4)
	}
}

// P8.1 to P8.3: many rows, whole and spoilt, against the chapter's words: what may be is put and got, and what is got is put as the same bytes.
func TestMany(t *testing.T) {
	s := stream(8)
	for range 10000 {
		l := fill(s.below(6), s.class)
		b, e := class.Put(l)
		if !bytes.Equal(b, rowBytes(l)) || e != api.OK {
			t.Fatalf("Put(%v) = %x, %v", l, b, e)
		}
		if again, e := class.Get(b); !same(again, l) || e != api.OK {
			t.Fatalf("Get(%x) = %v, %v", b, again, e)
		}
		for range 5 {
			checkGot(t, s.spoil(b))
		}
	}
}

// spoil: bytes like these, with one of them another one, more or fewer.
func (s *stream) spoil(b []byte) []byte {
	b = bytes.Clone(b)
	at := s.below(len(b))
	switch s.below(5) {
	case 0:
		return b[:at]
	case 1:
		return slices.Insert(b, at, s.byte())
	case 2:
		return slices.Delete(b, at, at+1)
	case 3:
		b[at] = byte(s.below(18))
	default:
		b[at] = s.byte()
	}
	return b
}

// P8.3: what is put is got, and what is got is put as the same bytes.
func TestPutIsGot(t *testing.T) {
	for _, n := range counts() {
		for from := range len(samples()) {
			l := row(n, from)
			b, e := class.Put(l)
			if e != api.OK {
				t.Fatalf("Put(%v): %v", l, e)
			}
			again, e := class.Get(b)
			if e != api.OK || !same(again, l) {
				t.Fatalf("Get(%x) = %v, %v; not %v", b, again, e, l)
			}
			isPut(t, again, b)
		}
	}
}
