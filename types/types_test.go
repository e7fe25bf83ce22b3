package types_test

import (
	"bytes"
	"math"
	"slices"
	"strings"
	"testing"

	"garderobe/api"
	"garderobe/types"
)

// What the chapter says of each Kind, by number: is it one of a type, has its type a Class, is it a reference, to an array, and how many bytes an entry has.
type told struct {
	may, class, ref, array bool
	size                   int
}

func kind(k api.Kind) told {
	if int(k) > 8 {
		return told{}
	}
	return [9]told{
		{},
		{may: true}, {may: true}, {may: true},
		{may: true, class: true, ref: true},
		{may: true, ref: true, array: true, size: 1}, {may: true, ref: true, array: true, size: 1}, {may: true, ref: true, array: true, size: 2},
		{may: true, class: true, ref: true, array: true, size: 2},
	}[k]
}

func isType(t api.Type) bool {
	return kind(t.Kind).may && (kind(t.Kind).class || t.Class == 0)
}

func isSig(s api.Sig) bool {
	may := isType(s.Ret) || s.Ret.Kind == 0 && s.Ret.Class == 0
	for _, t := range s.Params {
		may = may && isType(t)
	}
	return may && len(s.Params) < 16
}

func typeBytes(t api.Type) []byte {
	if kind(t.Kind).class {
		return []byte{byte(t.Kind), byte(t.Class / 256), byte(t.Class % 256)}
	}
	return []byte{byte(t.Kind)}
}

func sigBytes(s api.Sig) []byte {
	b := append(typeBytes(s.Ret), byte(len(s.Params)))
	for _, t := range s.Params {
		b = append(b, typeBytes(t)...)
	}
	return b
}

// readType: the chapter's words for word, so that the tests don't lean on what they test; with none, a type 00 may be.
func readType(b []byte, none bool) (t api.Type, n int, e api.Errno) {
	switch {
	case len(b) == 0:
		return t, 0, api.ErrShort
	case b[0] > 8, b[0] == 0 && !none:
		return t, 0, api.ErrForm
	case b[0] != 4 && b[0] != 8:
		return api.Type{Kind: api.Kind(b[0])}, 1, api.OK
	case len(b) < 3:
		return t, 0, api.ErrShort
	}
	return api.Type{Kind: api.Kind(b[0]), Class: uint16(b[1])*256 + uint16(b[2])}, 3, api.OK
}

func readSig(b []byte) (s api.Sig, n int, e api.Errno) {
	s.Ret, n, e = readType(b, true)
	if e == api.OK && n == len(b) {
		e = api.ErrShort
	}
	if e == api.OK && b[n] > 15 {
		e = api.ErrForm
	}
	if e != api.OK {
		return api.Sig{}, 0, e
	}
	count := int(b[n])
	n++
	for range count {
		t, size, e := readType(b[n:], false)
		if e != api.OK {
			return api.Sig{}, 0, e
		}
		s.Params, n = append(s.Params, t), n+size
	}
	return s, n, api.OK
}

// classes: Classes at the edges of a byte and of its sign.
func classes() []uint16 {
	return []uint16{0, 1, 2, 127, 128, 255, 256, 257, 258, 511, 512, 32767, 32768, 65280, 65534, 65535}
}

// all: each Kind that a byte holds, with each of the classes: types and what is none.
func all(f func(t api.Type)) {
	for k := range 256 {
		for _, c := range classes() {
			f(api.Type{Kind: api.Kind(k), Class: c})
		}
	}
}

// some: types of each Kind.
func some() []api.Type {
	var list []api.Type
	for k := range api.Kind(9) {
		for _, c := range []uint16{0, 1, 258, 65535} {
			if t := (api.Type{Kind: k, Class: c}); isType(t) {
				list = append(list, t)
			}
		}
	}
	return list
}

// noTypes: what is none, at each edge.
func noTypes() []api.Type {
	list := []api.Type{{}, {Class: 1}, {Class: 65535}, {Kind: 9}, {Kind: 9, Class: 1}, {Kind: 127}, {Kind: 128}, {Kind: 132}, {Kind: 255}, {Kind: 255, Class: 65535}}
	for _, k := range []api.Kind{1, 2, 3, 5, 6, 7} {
		list = append(list, api.Type{Kind: k, Class: 1}, api.Type{Kind: k, Class: 256}, api.Type{Kind: k, Class: 65535})
	}
	return list
}

// params: n types, one behind the other of another Kind, from a place of some on.
func params(n, from int) []api.Type {
	var list []api.Type
	for i := range n {
		list = append(list, some()[(from+i*5)%len(some())])
	}
	return list
}

// sigs: with each Ret, of no, of 15 and of some Params.
func sigs() []api.Sig {
	var list []api.Sig
	for i, ret := range append(some(), api.Type{}) {
		for _, n := range []int{0, 1, 2, 3, 8, 14, 15} {
			list = append(list, api.Sig{Params: params(n, i), Ret: ret})
		}
	}
	return list
}

// alike: a and b by the chapter's words, type by type.
func alike(a, b api.Sig) bool {
	same := a.Ret.Kind == b.Ret.Kind && a.Ret.Class == b.Ret.Class && len(a.Params) == len(b.Params)
	for i := 0; same && i < len(a.Params); i++ {
		same = a.Params[i].Kind == b.Params[i].Kind && a.Params[i].Class == b.Params[i].Class
	}
	return same
}

// noPlaces: places outside of n bytes, some of them within if they were cut to 32 bits.
func noPlaces(n int) []int {
	return []int{math.MinInt, -1 << 32, -n - 1, -3, -1, n + 1, n + 2, 1 << 32, 1<<32 + n, math.MaxInt - 1, math.MaxInt}
}

// made: n bytes of which each differs from those about it.
func made(n int) []byte {
	b := make([]byte, n)
	for i := range b {
		b[i] = byte(i*7 + i/256 + 1)
	}
	return b
}

// P4.1: each Kind that there may be, with no Class and with others.
func TestMay(t *testing.T) {
	all(func(x api.Type) {
		if may := types.May(x); may != isType(x) {
			t.Errorf("May(%v) = %t", x, may)
		}
	})
	for _, x := range noTypes() {
		if types.May(x) {
			t.Errorf("May(%v)", x)
		}
	}
}

// P4.1: the Kinds by their names, as they are counted in api.
func TestKinds(t *testing.T) {
	for i, k := range []api.Kind{api.TVoid, api.TBool, api.TByte, api.TShort, api.TRef, api.TBools, api.TBytes, api.TShorts, api.TRefs} {
		if int(k) != i {
			t.Errorf("the Kind %d is counted as %d", i, k)
		}
		if may := types.May(api.Type{Kind: k}); may != (k != api.TVoid) {
			t.Errorf("May of the Kind %d: %t", k, may)
		}
		if may := types.May(api.Type{Kind: k, Class: 1}); may != (k == api.TRef || k == api.TRefs) {
			t.Errorf("May of the Kind %d with the Class 1: %t", k, may)
		}
	}
}

// P4.1: written out by hand, the chapter's examples among them.
func TestPutExamples(t *testing.T) {
	for _, c := range []struct {
		t api.Type
		b string
		e api.Errno
	}{
		{api.Type{Kind: api.TByte}, "\x02", api.OK}, {api.Type{Kind: api.TRef, Class: 258}, "\x04\x01\x02", api.OK}, {api.Type{Kind: api.TVoid}, "", api.ErrArg},
		{api.Type{Kind: api.TBool}, "\x01", api.OK}, {api.Type{Kind: api.TShort}, "\x03", api.OK},
		{api.Type{Kind: api.TBools}, "\x05", api.OK}, {api.Type{Kind: api.TBytes}, "\x06", api.OK}, {api.Type{Kind: api.TShorts}, "\x07", api.OK},
		{api.Type{Kind: api.TRef}, "\x04\x00\x00", api.OK}, {api.Type{Kind: api.TRef, Class: 65535}, "\x04\xff\xff", api.OK}, {api.Type{Kind: api.TRefs, Class: 256}, "\x08\x01\x00", api.OK}, {api.Type{Kind: api.TRefs, Class: 255}, "\x08\x00\xff", api.OK},
		{api.Type{Kind: api.TBool, Class: 1}, "", api.ErrArg}, {api.Type{Kind: api.TShorts, Class: 65535}, "", api.ErrArg}, {api.Type{Class: 1}, "", api.ErrArg}, {api.Type{Kind: 9}, "", api.ErrArg}, {api.Type{Kind: 255, Class: 65535}, "", api.ErrArg},
	} {
		if b, e := types.Put(c.t); string(b) != c.b || e != c.e {
			t.Errorf("Put(%v) = %x, %v", c.t, b, e)
		}
	}
}

// P4.1: each Kind with some Classes, and each Class there is.
func TestPutAsSaid(t *testing.T) {
	check := func(x api.Type) {
		want, e := typeBytes(x), api.OK
		if !isType(x) {
			want, e = nil, api.ErrArg
		}
		if b, f := types.Put(x); !bytes.Equal(b, want) || f != e {
			t.Fatalf("Put(%v) = %x, %v", x, b, f)
		}
	}
	all(check)
	for k := range api.Kind(10) {
		for c := range 65536 {
			check(api.Type{Kind: k, Class: uint16(c)})
		}
	}
}

// P4.1: written out by hand, the chapter's example among them.
func TestPutSigExamples(t *testing.T) {
	short, ref := api.Type{Kind: api.TShort}, api.Type{Kind: api.TRef, Class: 258}
	for _, c := range []struct {
		s api.Sig
		b string
		e api.Errno
	}{
		{api.Sig{Params: []api.Type{short}}, "\x00\x01\x03", api.OK},
		{api.Sig{}, "\x00\x00", api.OK}, {api.Sig{Params: []api.Type{}}, "\x00\x00", api.OK}, {api.Sig{Ret: short}, "\x03\x00", api.OK}, {api.Sig{Ret: ref}, "\x04\x01\x02\x00", api.OK},
		{api.Sig{Params: []api.Type{ref, short, ref}, Ret: ref}, "\x04\x01\x02\x03\x04\x01\x02\x03\x04\x01\x02", api.OK},
		{api.Sig{Params: []api.Type{{Kind: api.TBool}, {Kind: api.TRefs, Class: 3}, {Kind: api.TBytes}}, Ret: api.Type{Kind: api.TShorts}}, "\x07\x03\x01\x08\x00\x03\x06", api.OK},
		{api.Sig{Params: slices.Repeat([]api.Type{short}, 15)}, "\x00\x0f" + strings.Repeat("\x03", 15), api.OK}, {api.Sig{Params: slices.Repeat([]api.Type{short}, 16)}, "", api.ErrArg},
		{api.Sig{Params: slices.Repeat([]api.Type{ref}, 15), Ret: ref}, "\x04\x01\x02\x0f" + strings.Repeat("\x04\x01\x02", 15), api.OK}, {api.Sig{Params: slices.Repeat([]api.Type{ref}, 16), Ret: ref}, "", api.ErrArg},
		{api.Sig{Ret: api.Type{Class: 1}}, "", api.ErrArg}, {api.Sig{Ret: api.Type{Class: 65535}, Params: []api.Type{short}}, "", api.ErrArg}, {api.Sig{Ret: api.Type{Kind: 9}}, "", api.ErrArg}, {api.Sig{Ret: api.Type{Kind: api.TShort, Class: 1}}, "", api.ErrArg},
		{api.Sig{Params: []api.Type{{}}}, "", api.ErrArg}, {api.Sig{Params: []api.Type{short, {}}, Ret: short}, "", api.ErrArg}, {api.Sig{Params: []api.Type{{Kind: api.TBool, Class: 1}}}, "", api.ErrArg}, {api.Sig{Params: []api.Type{{Class: 1}}}, "", api.ErrArg},
	} {
		if b, e := types.PutSig(c.s); string(b) != c.b || e != c.e {
			t.Errorf("PutSig(%v) = %x, %v", c.s, b, e)
		}
	}
}

// P4.1: each Ret there may be, types and what is none.
func TestPutSigRet(t *testing.T) {
	all(func(ret api.Type) {
		for _, list := range [][]api.Type{nil, {}, params(2, 3), params(15, 1)} {
			s := api.Sig{Params: list, Ret: ret}
			want, e := sigBytes(s), api.OK
			if !isSig(s) {
				want, e = nil, api.ErrArg
			}
			if b, f := types.PutSig(s); !bytes.Equal(b, want) || f != e {
				t.Errorf("PutSig(%v) = %x, %v", s, b, f)
			}
		}
	})
}

// P4.1: each count of Params, as many too as a byte doesn't hold.
func TestPutSigCount(t *testing.T) {
	for _, n := range []int{0, 1, 2, 3, 7, 8, 13, 14, 15, 16, 17, 31, 127, 128, 255, 256, 257, 258, 271, 65535, 65536, 65537} {
		for _, x := range some() {
			s := api.Sig{Params: slices.Repeat([]api.Type{x}, n), Ret: x}
			want, e := sigBytes(s), api.OK
			if n > 15 {
				want, e = nil, api.ErrArg
			}
			if b, f := types.PutSig(s); !bytes.Equal(b, want) || f != e {
				t.Errorf("PutSig of %d Params %v: %x, %v", n, x, b, f)
			}
		}
	}
}

// P4.1: one that is no type, at each place among those that are.
func TestPutSigWrongParam(t *testing.T) {
	for _, x := range noTypes() {
		for n := 1; n <= 16; n++ {
			for i := range n {
				s := api.Sig{Params: params(n, i)}
				s.Params[i] = x
				if b, e := types.PutSig(s); len(b) != 0 || e != api.ErrArg {
					t.Errorf("PutSig with %v as Param %d of %d: %x, %v", x, i, n, b, e)
				}
			}
		}
	}
}

// P4.2: written out by hand, the chapter's example among them.
func TestGetExamples(t *testing.T) {
	for _, c := range []struct {
		b    string
		at   int
		t    api.Type
		next int
		e    api.Errno
	}{
		{"\x00", 0, api.Type{}, 0, api.ErrForm},
		{"\x02", 0, api.Type{Kind: api.TByte}, 1, api.OK}, {"\x02\x09", 0, api.Type{Kind: api.TByte}, 1, api.OK}, {"\x09\x02", 1, api.Type{Kind: api.TByte}, 2, api.OK}, {"\x01\x00\x01", 0, api.Type{Kind: api.TBool}, 1, api.OK},
		{"\x04\x01\x02", 0, api.Type{Kind: api.TRef, Class: 258}, 3, api.OK}, {"\x08\xff\xff\x00", 0, api.Type{Kind: api.TRefs, Class: 65535}, 3, api.OK}, {"xy\x04\x00\x00", 2, api.Type{Kind: api.TRef}, 5, api.OK},
		{"", 0, api.Type{}, 0, api.ErrShort}, {"\x02", 1, api.Type{}, 0, api.ErrShort}, {"\x04", 0, api.Type{}, 0, api.ErrShort}, {"\x04\x01", 0, api.Type{}, 0, api.ErrShort}, {"\x08\x01", 0, api.Type{}, 0, api.ErrShort}, {"\x08", 0, api.Type{}, 0, api.ErrShort},
		{"\x09", 0, api.Type{}, 0, api.ErrForm}, {"\x09\x00\x00", 0, api.Type{}, 0, api.ErrForm}, {"\x00\x00\x00", 0, api.Type{}, 0, api.ErrForm}, {"\xff", 0, api.Type{}, 0, api.ErrForm}, {"\x84\x00\x01", 0, api.Type{}, 0, api.ErrForm},
		{"", 1, api.Type{}, 0, api.ErrArg}, {"", -1, api.Type{}, 0, api.ErrArg}, {"\x00", 2, api.Type{}, 0, api.ErrArg}, {"\x00", -1, api.Type{}, 0, api.ErrArg}, {"\x02", 2, api.Type{}, 0, api.ErrArg},
	} {
		if x, next, e := types.Get([]byte(c.b), c.at); x != c.t || next != c.next || e != c.e {
			t.Errorf("Get(%x, %d) = %v, %d, %v", c.b, c.at, x, next, e)
		}
	}
}

// P4.2: each Kind that a byte holds, with no, one, two and three bytes behind it.
func TestGetAsSaid(t *testing.T) {
	for k := range 256 {
		for _, behind := range []string{"", "\x00", "\xff", "\x01\x02", "\x00\x00", "\xff\xff", "\x80\x00\x04", "\x04\x04\x04"} {
			b := append([]byte{byte(k)}, behind...)
			for _, at := range []int{0, 1, 5, 300} {
				want, n, e := readType(b, false)
				if e == api.OK {
					n += at
				}
				if x, next, f := types.Get(append(made(at), b...), at); x != want || next != n || f != e {
					t.Errorf("Get(%x) at %d = %v, %d, %v", b, at, x, next, f)
				}
			}
		}
	}
}

// P4.2: written out by hand: ends at each field, Kinds that are none, counts about the edge, and which of two errors is told.
func TestGetSigExamples(t *testing.T) {
	short, ref := api.Type{Kind: api.TShort}, api.Type{Kind: api.TRef, Class: 258}
	for _, c := range []struct {
		b    string
		at   int
		s    api.Sig
		next int
		e    api.Errno
	}{
		{"\x00\x01\x03", 0, api.Sig{Params: []api.Type{short}}, 3, api.OK}, {"\x00\x00", 0, api.Sig{}, 2, api.OK}, {"\x00\x00\x03", 0, api.Sig{}, 2, api.OK}, {"\x09\x00\x00", 1, api.Sig{}, 3, api.OK},
		{"\x04\x01\x02\x02\x03\x04\x01\x02", 0, api.Sig{Params: []api.Type{short, ref}, Ret: ref}, 8, api.OK}, {"x\x04\x01\x02\x02\x03\x04\x01\x02y", 1, api.Sig{Params: []api.Type{short, ref}, Ret: ref}, 9, api.OK},
		{"\x03\x0f" + strings.Repeat("\x03", 15), 0, api.Sig{Params: slices.Repeat([]api.Type{short}, 15), Ret: short}, 17, api.OK}, {"\x03\x0f" + strings.Repeat("\x03", 16), 0, api.Sig{Params: slices.Repeat([]api.Type{short}, 15), Ret: short}, 17, api.OK},
		{"\x03\x10" + strings.Repeat("\x03", 16), 0, api.Sig{}, 0, api.ErrForm}, {"\x03\x10", 0, api.Sig{}, 0, api.ErrForm}, {"\x00\xff", 0, api.Sig{}, 0, api.ErrForm}, {"\x00\x80", 0, api.Sig{}, 0, api.ErrForm},
		{"", 0, api.Sig{}, 0, api.ErrShort}, {"\x00", 0, api.Sig{}, 0, api.ErrShort}, {"\x00", 1, api.Sig{}, 0, api.ErrShort}, {"\x03", 0, api.Sig{}, 0, api.ErrShort}, {"\x04", 0, api.Sig{}, 0, api.ErrShort}, {"\x04\x01", 0, api.Sig{}, 0, api.ErrShort}, {"\x04\x01\x02", 0, api.Sig{}, 0, api.ErrShort},
		{"\x00\x01", 0, api.Sig{}, 0, api.ErrShort}, {"\x00\x02\x03", 0, api.Sig{}, 0, api.ErrShort}, {"\x00\x01\x04", 0, api.Sig{}, 0, api.ErrShort}, {"\x00\x01\x08\x00", 0, api.Sig{}, 0, api.ErrShort}, {"\x03\x0f" + strings.Repeat("\x03", 14), 0, api.Sig{}, 0, api.ErrShort},
		{"\x09", 0, api.Sig{}, 0, api.ErrForm}, {"\x09\x00", 0, api.Sig{}, 0, api.ErrForm}, {"\xff\x10", 0, api.Sig{}, 0, api.ErrForm},
		{"\x00\x01\x00", 0, api.Sig{}, 0, api.ErrForm}, {"\x00\x01\x09", 0, api.Sig{}, 0, api.ErrForm}, {"\x00\x02\x00", 0, api.Sig{}, 0, api.ErrForm}, {"\x00\x0f\x03\x09", 0, api.Sig{}, 0, api.ErrForm}, {"\x00\x02\x04\x00\x00\x00", 0, api.Sig{}, 0, api.ErrForm},
		{"\x00\x02\x04\x00", 0, api.Sig{}, 0, api.ErrShort}, {"\x00\x02\x03\x04\x09", 0, api.Sig{}, 0, api.ErrShort},
		{"", 1, api.Sig{}, 0, api.ErrArg}, {"", -1, api.Sig{}, 0, api.ErrArg}, {"\x09", 2, api.Sig{}, 0, api.ErrArg}, {"\x00\x00", 3, api.Sig{}, 0, api.ErrArg}, {"\x00\x00", -1, api.Sig{}, 0, api.ErrArg},
	} {
		if s, next, e := types.GetSig([]byte(c.b), c.at); !alike(s, c.s) || next != c.next || e != c.e {
			t.Errorf("GetSig(%x, %d) = %v, %d, %v", c.b, c.at, s, next, e)
		}
	}
}

// checkSig: is what is got, at a place, as the chapter says of the bytes from there on?
func checkSig(t *testing.T, b []byte, at int) {
	t.Helper()
	want, n, e := readSig(b[at:])
	if e == api.OK {
		n += at
	}
	if s, next, f := types.GetSig(b, at); !alike(s, want) || next != n || f != e {
		t.Fatalf("GetSig(%x, %d) = %v, %d, %v", b, at, s, next, f)
	}
}

// P4.2: all bytes of up to six, of those at which something changes.
func TestGetSigAsSaid(t *testing.T) {
	var check func(b []byte)
	check = func(b []byte) {
		checkSig(t, b, 0)
		if len(b) == 6 {
			return
		}
		for _, x := range []byte{0, 1, 2, 3, 4, 8, 9, 15, 16, 255} {
			check(append(b[:len(b):len(b)], x))
		}
	}
	check(nil)
}

// P4.2: signatures that are whole, cut at each byte, and with each byte another one.
func TestGetSigSpoilt(t *testing.T) {
	for _, s := range sigs() {
		b := append(made(3), sigBytes(s)...)
		for n := 3; n <= len(b); n++ {
			checkSig(t, b[:n:n], 3)
			if _, _, e := types.GetSig(b[:n:n], 3); (e == api.OK) != (n == len(b)) || n < len(b) && e != api.ErrShort {
				t.Fatalf("GetSig(%x, 3): %v", b[:n], e)
			}
			if n == len(b) {
				break
			}
			for _, x := range []byte{0, 1, 4, 5, 8, 9, 15, 16, 255} {
				c := bytes.Clone(b)
				c[n] = x
				checkSig(t, c, 3)
			}
		}
	}
}

// P4.2: a place outside is an error of the argument, whatever stands there, and nothing stands beside it; at the end nothing stands.
func TestGetOutside(t *testing.T) {
	for _, b := range [][]byte{nil, {}, {0}, {9}, {2}, {4, 1, 2}, {0, 1, 3}, {0, 16}, made(300)} {
		for _, at := range noPlaces(len(b)) {
			if x, next, e := types.Get(b, at); x != (api.Type{}) || next != 0 || e != api.ErrArg {
				t.Errorf("Get of %d bytes at %d: %v, %d, %v", len(b), at, x, next, e)
			}
			if s, next, e := types.GetSig(b, at); !alike(s, api.Sig{}) || next != 0 || e != api.ErrArg {
				t.Errorf("GetSig of %d bytes at %d: %v, %d, %v", len(b), at, s, next, e)
			}
		}
		if x, next, e := types.Get(b, len(b)); x != (api.Type{}) || next != 0 || e != api.ErrShort {
			t.Errorf("Get of %d bytes at their end: %v, %d, %v", len(b), x, next, e)
		}
		if s, next, e := types.GetSig(b, len(b)); !alike(s, api.Sig{}) || next != 0 || e != api.ErrShort {
			t.Errorf("GetSig of %d bytes at their end: %v, %d, %v", len(b), s, next, e)
		}
	}
}

// P4.3: written out by hand, the chapter's examples among them.
func TestSortsExamples(t *testing.T) {
	for _, c := range []struct {
		t          api.Type
		ref, array bool
		size       int
	}{
		{api.Type{}, false, false, 0}, {api.Type{Kind: api.TBool}, false, false, 0}, {api.Type{Kind: api.TByte}, false, false, 0}, {api.Type{Kind: api.TShort}, false, false, 0},
		{api.Type{Kind: api.TRef}, true, false, 0}, {api.Type{Kind: api.TRef, Class: 65535}, true, false, 0},
		{api.Type{Kind: api.TBools}, true, true, 1}, {api.Type{Kind: api.TBytes}, true, true, 1}, {api.Type{Kind: api.TShorts}, true, true, 2},
		{api.Type{Kind: api.TRefs}, true, true, 2}, {api.Type{Kind: api.TRefs, Class: 258}, true, true, 2},
		{api.Type{Kind: 9}, false, false, 0}, {api.Type{Kind: 132}, false, false, 0}, {api.Type{Kind: 255, Class: 1}, false, false, 0},
	} {
		if ref, array, size := types.IsRef(c.t), types.IsArray(c.t), types.Size(c.t); ref != c.ref || array != c.array || size != c.size {
			t.Errorf("IsRef, IsArray, Size of %v: %t, %t, %d", c.t, ref, array, size)
		}
	}
}

// P4.3: each Kind that a byte holds; the Kind tells it, whatever the Class.
func TestSortsAsSaid(t *testing.T) {
	all(func(x api.Type) {
		want := kind(x.Kind)
		if ref, array, size := types.IsRef(x), types.IsArray(x), types.Size(x); ref != want.ref || array != want.array || size != want.size {
			t.Errorf("IsRef, IsArray, Size of %v: %t, %t, %d", x, ref, array, size)
		}
	})
}

// P4.3: written out by hand: another Ret, another order, another Class, one more.
func TestSameExamples(t *testing.T) {
	short, bytes, ref := api.Type{Kind: api.TShort}, api.Type{Kind: api.TBytes}, api.Type{Kind: api.TRef, Class: 258}
	for _, c := range []struct {
		a, b api.Sig
		same bool
	}{
		{api.Sig{}, api.Sig{}, true}, {api.Sig{}, api.Sig{Params: []api.Type{}}, true}, {api.Sig{Params: []api.Type{}}, api.Sig{}, true}, {api.Sig{}, api.Sig{Params: make([]api.Type, 0, 5)}, true},
		{api.Sig{Params: []api.Type{short, ref}, Ret: ref}, api.Sig{Params: []api.Type{short, ref}, Ret: ref}, true},
		{api.Sig{Params: []api.Type{short, ref}}, api.Sig{Params: []api.Type{ref, short}}, false}, {api.Sig{Params: []api.Type{short, ref}}, api.Sig{Params: []api.Type{short, bytes}}, false},
		{api.Sig{Params: []api.Type{short}}, api.Sig{Params: []api.Type{short, short}}, false}, {api.Sig{Params: []api.Type{short}}, api.Sig{}, false}, {api.Sig{}, api.Sig{Params: []api.Type{short}}, false}, {api.Sig{}, api.Sig{Params: []api.Type{{}}}, false},
		{api.Sig{Ret: short}, api.Sig{}, false}, {api.Sig{Ret: short}, api.Sig{Ret: bytes}, false}, {api.Sig{Ret: short}, api.Sig{Params: []api.Type{short}}, false}, {api.Sig{Ret: short, Params: []api.Type{ref}}, api.Sig{Ret: ref, Params: []api.Type{short}}, false},
		{api.Sig{Ret: ref}, api.Sig{Ret: api.Type{Kind: api.TRef, Class: 2}}, false}, {api.Sig{Ret: ref}, api.Sig{Ret: api.Type{Kind: api.TRefs, Class: 258}}, false},
		{api.Sig{Params: []api.Type{ref}}, api.Sig{Params: []api.Type{{Kind: api.TRef, Class: 257}}}, false}, {api.Sig{Params: []api.Type{ref}}, api.Sig{Params: []api.Type{{Kind: api.TRefs, Class: 258}}}, false},
	} {
		if same := types.Same(c.a, c.b); same != c.same {
			t.Errorf("Same(%v, %v) = %t", c.a, c.b, same)
		}
	}
}

// P4.3: each signature beside each one, and beside itself with one type another one, or one less.
func TestSameAsSaid(t *testing.T) {
	check := func(a, b api.Sig) {
		if same := types.Same(a, b); same != alike(a, b) {
			t.Errorf("Same(%v, %v) = %t", a, b, same)
		}
	}
	for _, a := range sigs() {
		for _, b := range sigs() {
			check(a, b)
		}
		for i := range a.Params {
			b := api.Sig{Params: slices.Clone(a.Params), Ret: a.Ret}
			b.Params[i].Class ^= 256
			check(a, b)
			b.Params[i] = api.Type{Kind: a.Params[i].Kind%8 + 1, Class: a.Params[i].Class}
			check(a, b)
			check(api.Sig{Params: a.Params[:i], Ret: a.Ret}, a)
			check(a, api.Sig{Params: a.Params[i:], Ret: a.Ret})
		}
	}
}

// P4.4: a type that is put is got, with whatever bytes ahead of it and behind it.
func TestTypePutIsGot(t *testing.T) {
	all(func(x api.Type) {
		b, e := types.Put(x)
		if (e == api.OK) != isType(x) {
			t.Fatalf("Put(%v): %v", x, e)
		}
		if e != api.OK {
			return
		}
		for _, ahead := range []int{0, 1, 2, 256, 70000} {
			for _, behind := range []int{0, 1, 5} {
				whole := append(append(made(ahead), b...), made(behind)...)
				got, next, e := types.Get(whole, ahead)
				if got != x || next != ahead+len(b) || e != api.OK {
					t.Errorf("Get of %v at %d: %v, %d, %v", x, ahead, got, next, e)
				}
			}
		}
	})
}

// P4.4: a signature that is put is got, with whatever bytes ahead of it and behind it.
func TestSigPutIsGot(t *testing.T) {
	for _, s := range sigs() {
		b, e := types.PutSig(s)
		if e != api.OK {
			t.Fatalf("PutSig(%v): %v", s, e)
		}
		for _, ahead := range []int{0, 1, 2, 256, 70000} {
			for _, behind := range []int{0, 1, 5} {
				whole := append(append(made(ahead), b...), made(behind)...)
				got, next, e := types.GetSig(whole, ahead)
				if !types.Same(got, s) || !alike(got, s) || next != ahead+len(b) || e != api.OK {
					t.Errorf("GetSig of %v at %d: %v, %d, %v", s, ahead, got, next, e)
				}
			}
		}
	}
}

// P4.4: what is got is put as the bytes that it was got of, whatever bytes are handed in.
func TestGotIsPut(t *testing.T) {
	got := 0
	check := func(b []byte) {
		if x, next, e := types.Get(b, 0); e == api.OK {
			if c, e := types.Put(x); !bytes.Equal(c, b[:next]) || e != api.OK {
				t.Fatalf("Put of what is got of %x: %x, %v", b, c, e)
			}
		}
		if s, next, e := types.GetSig(b, 0); e == api.OK {
			got++
			if c, e := types.PutSig(s); !bytes.Equal(c, b[:next]) || e != api.OK {
				t.Fatalf("PutSig of what is got of %x: %x, %v", b, c, e)
			}
		}
	}
	// Some bytes from a short rule, so that they are the same ones each time.
	x := uint32(1)
	for range 200000 {
		b := make([]byte, 2+x>>28)
		for i := range b {
			x = x*1664525 + 1013904223
			if b[i] = byte(x >> 24); x>>20&7 != 0 {
				b[i] %= 10
			}
		}
		check(b)
	}
	if got < 1000 {
		t.Errorf("only %d signatures were got", got)
	}
}

// P4.4: types and signatures that stand behind one another are got one by one.
func TestInTurn(t *testing.T) {
	var b []byte
	for _, s := range sigs() {
		more, _ := types.PutSig(s)
		ret, _ := types.Put(s.Ret)
		b = append(append(b, more...), ret...)
	}
	at := 0
	for _, s := range sigs() {
		got, next, e := types.GetSig(b, at)
		if !types.Same(got, s) || e != api.OK {
			t.Fatalf("GetSig at %d: %v, %v", at, got, e)
		}
		if at = next; s.Ret.Kind == api.TVoid {
			continue
		}
		ret, next, e := types.Get(b, at)
		if ret != s.Ret || e != api.OK {
			t.Fatalf("Get at %d: %v, %v", at, ret, e)
		}
		at = next
	}
	if at != len(b) {
		t.Errorf("behind the last one: %d of %d", at, len(b))
	}
}

// guarded: a list in the midst of others, which stay as they are behind whatever f does.
func guarded[T comparable](t *testing.T, list []T, other T, f func(list []T)) {
	t.Helper()
	whole := slices.Concat(slices.Repeat([]T{other}, 3), list, slices.Repeat([]T{other}, 5))
	was := slices.Clone(whole)
	f(whole[3 : 3+len(list)])
	if !slices.Equal(whole, was) {
		t.Errorf("%v was handed in, behind the call it is %v", was, whole)
	}
}

// spoil: all that a list reaches is another thing, the room behind its end too.
func spoil[T any](list []T, with T) {
	list = list[:cap(list)]
	for i := range list {
		list[i] = with
	}
}

// What is handed in stays as it is, what stands about it too, whatever becomes of the answer.
func TestHandedInStays(t *testing.T) {
	list := append(sigs(), api.Sig{Params: params(16, 0)}, api.Sig{Params: noTypes()}, api.Sig{Params: params(3, 1), Ret: api.Type{Class: 1}})
	for _, s := range list {
		guarded(t, s.Params, api.Type{Kind: 77, Class: 7}, func(a []api.Type) {
			x := api.Sig{Params: a, Ret: s.Ret}
			b, _ := types.PutSig(x)
			spoil(b, 85)
			guarded(t, s.Params, api.Type{Kind: 78, Class: 8}, func(b []api.Type) {
				y := api.Sig{Params: b, Ret: s.Ret}
				if !types.Same(x, y) || !types.Same(y, x) || !types.Same(x, x) {
					t.Errorf("%v isn't the same as itself", s)
				}
			})
		})
		guarded(t, sigBytes(s), 85, func(b []byte) {
			for at := range b {
				_, _, _ = types.Get(b, at)
				got, _, _ := types.GetSig(b, at)
				spoil(got.Params, api.Type{Kind: 77, Class: 7})
			}
		})
	}
}

// Two answers share nothing: what becomes of one is not seen in another, nor what becomes of the argument in either.
func TestAnswersApart(t *testing.T) {
	for _, x := range some() {
		b, _ := types.Put(x)
		again, _ := types.Put(x)
		spoil(again, 85)
		if later, _ := types.Put(x); !bytes.Equal(b, typeBytes(x)) || !bytes.Equal(later, b) {
			t.Errorf("Put(%v): %x, then %x", x, b, later)
		}
	}
	for _, s := range sigs() {
		mine := api.Sig{Params: slices.Clone(s.Params), Ret: s.Ret}
		b, _ := types.PutSig(mine)
		again, _ := types.PutSig(mine)
		spoil(again, 85)
		spoil(mine.Params, api.Type{Kind: 77, Class: 7})
		if !bytes.Equal(b, sigBytes(s)) {
			t.Errorf("PutSig(%v): %x", s, b)
		}
		got, _, _ := types.GetSig(b, 0)
		twice, _, _ := types.GetSig(b, 0)
		spoil(twice.Params, api.Type{Kind: 77, Class: 7})
		spoil(b, 85)
		if !alike(got, s) {
			t.Errorf("GetSig of %v: %v", s, got)
		}
	}
}
