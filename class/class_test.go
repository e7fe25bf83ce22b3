package class_test

import (
	"bytes"
	"encoding/hex"
	"slices"
	"strings"
	"testing"

	"garderobe/api"
	"garderobe/class"
)

// hx: bytes that are written as hexadecimal numbers, blanks between them.
func hx(s string) []byte {
	b, err := hex.DecodeString(strings.ReplaceAll(s, " ", ""))
	if err != nil {
		panic(err)
	}
	return b
}

var (
	short = api.Type{Kind: api.TShort}
	plain = api.Sig{Ret: short}
)

// A sample is a class and its bytes.
type sample struct {
	b string
	c api.Class
}

// interfaces: written out by hand, with none, one and many Sigs.
func interfaces() []sample {
	return []sample{
		{"01 00", api.Class{Flags: 1, Super: 65535}},
		{"03 00", api.Class{Flags: 3, Super: 65535}},
		{"01 01 00 00", api.Class{Flags: 1, Super: 65535, Sigs: []api.Sig{{}}}},
		{"03 01 03 00", api.Class{Flags: 3, Super: 65535, Sigs: []api.Sig{plain}}},
		{"01 01 04 01 02 01 08 ff fe", api.Class{Flags: 1, Super: 65535, Sigs: []api.Sig{{Ret: api.Type{Kind: 4, Class: 258}, Params: []api.Type{{Kind: 8, Class: 65534}}}}}},
		{"03 03 00 02 03 03 06 01 01 00 00", api.Class{Flags: 3, Super: 65535, Sigs: []api.Sig{{Params: []api.Type{{Kind: 3}, {Kind: 3}}}, {Ret: api.Type{Kind: 6}, Params: []api.Type{{Kind: 1}}}, {}}}},
		{"01 02 00 0f 01 02 03 05 06 07 01 02 03 05 06 07 01 02 03 02 00", api.Class{Flags: 1, Super: 65535, Sigs: []api.Sig{
			{Params: []api.Type{{Kind: 1}, {Kind: 2}, {Kind: 3}, {Kind: 5}, {Kind: 6}, {Kind: 7}, {Kind: 1}, {Kind: 2}, {Kind: 3}, {Kind: 5}, {Kind: 6}, {Kind: 7}, {Kind: 1}, {Kind: 2}, {Kind: 3}}}, {Ret: api.Type{Kind: 2}}}}},
	}
}

// classes: written out by hand, with none, one and many of each of their lists, and numbers at the ends of their ranges.
func classes() []sample {
	return []sample{
		{"00 00 00 00 00 00", api.Class{}},
		{"02 00 01 00 00 00", api.Class{Flags: 2, Super: 1}},
		{"04 7f ff 00 00 00", api.Class{Flags: 4, Super: 32767}},
		{"06 80 00 00 00 00", api.Class{Flags: 6, Super: 32768}},
		{"00 ff fe 00 00 00", api.Class{Super: 65534}},
		{"00 ff ff 00 00 00", api.Class{Super: 65535}},
		{"00 00 00 01 00 00 00 00 00", api.Class{Ifaces: []api.Iface{{}}}},
		{"02 01 02 01 80 00 01 07 00 00", api.Class{Flags: 2, Super: 258, Ifaces: []api.Iface{{Ref: 32768, Map: []byte{7}}}}},
		{"00 00 03 03 00 01 00 82 02 03 00 ff 80 ff ff 02 01 00 00 00", api.Class{Super: 3, Ifaces: []api.Iface{{Ref: 1}, {Ref: 33282, Map: []byte{0, 255, 128}}, {Ref: 65535, Map: []byte{1, 0}}}}},
		{"00 00 00 00 01 03 00", api.Class{Fields: []api.Type{short}}},
		{"04 00 00 00 09 01 02 03 04 00 00 05 06 07 08 ff ff 04 03 04 00", api.Class{Flags: 4, Fields: []api.Type{{Kind: 1}, {Kind: 2}, {Kind: 3}, {Kind: 4}, {Kind: 5}, {Kind: 6}, {Kind: 7}, {Kind: 8, Class: 65535}, {Kind: 4, Class: 772}}}},
		{"00 00 00 00 00 01 00 00", api.Class{Virtuals: []uint16{0}}},
		{"04 80 0e 00 00 06 00 01 01 02 7f ff ff fd ff fe ff ff", api.Class{Flags: 4, Super: 32782, Virtuals: []uint16{1, 258, 32767, 65533, 65534, 65535}}},
		{"00 80 00 01 00 00 01 00 01 03 01 00 02", api.Class{Super: 32768, Ifaces: []api.Iface{{Map: []byte{0}}}, Fields: []api.Type{short}, Virtuals: []uint16{2}}},
		{"06 01 00 02 02 03 02 04 05 06 07 00 03 08 00 01 02 01 02 00 08 09 0a", api.Class{Flags: 6, Super: 256, Ifaces: []api.Iface{{Ref: 515, Map: []byte{4, 5}}, {Ref: 1543}}, Fields: []api.Type{{Kind: 8, Class: 1}, {Kind: 2}, {Kind: 1}}, Virtuals: []uint16{8, 2314}}},
	}
}

func samples() []sample { return append(interfaces(), classes()...) }

// noTypes: what is none.
func noTypes() []api.Type {
	return []api.Type{{}, {Class: 1}, {Kind: 1, Class: 1}, {Kind: 2, Class: 65535}, {Kind: 3, Class: 256}, {Kind: 5, Class: 1}, {Kind: 6, Class: 32768}, {Kind: 7, Class: 1}, {Kind: 9}, {Kind: 9, Class: 1}, {Kind: 12}, {Kind: 128}, {Kind: 132}, {Kind: 255}}
}

// noSigs: what is none, by its Ret, by one of its Params, by how many there are.
func noSigs() []api.Sig {
	l := []api.Sig{{Params: repeat(short, 16)}, {Params: repeat(short, 17)}, {Ret: short, Params: repeat(short, 255)}, {Params: repeat(short, 256)}, {Params: repeat(short, 257)}}
	for _, t := range noTypes() {
		if t != (api.Type{}) {
			l = append(l, api.Sig{Ret: t}, api.Sig{Ret: t, Params: []api.Type{short}})
		}
		l = append(l, api.Sig{Params: []api.Type{t}}, api.Sig{Ret: short, Params: []api.Type{short, t, short}}, api.Sig{Params: append(repeat(short, 14), t)})
	}
	return l
}

// wrong: what is no class, by hand: flags that are none, what its kind does not have, too many of something.
func wrong() []api.Class {
	return []api.Class{
		{Flags: 8}, {Flags: 16}, {Flags: 32}, {Flags: 64}, {Flags: 128}, {Flags: 10}, {Flags: 12}, {Flags: 14}, {Flags: 254}, {Flags: 128, Super: 65535},
		{Flags: 5, Super: 65535}, {Flags: 7, Super: 65535}, {Flags: 9, Super: 65535}, {Flags: 11, Super: 65535}, {Flags: 129, Super: 65535}, {Flags: 255, Super: 65535}, {Flags: 5}, {Flags: 9},
		{Flags: 1}, {Flags: 3}, {Flags: 1, Super: 1}, {Flags: 3, Super: 32768}, {Flags: 1, Super: 65534}, {Flags: 1, Super: 255}, {Flags: 1, Super: 65280}, {Flags: 3, Sigs: []api.Sig{{}}},
		{Flags: 1, Super: 65535, Ifaces: []api.Iface{{}}}, {Flags: 1, Super: 65535, Ifaces: []api.Iface{{Ref: 1, Map: []byte{1}}}}, {Flags: 1, Super: 65535, Fields: []api.Type{short}}, {Flags: 3, Super: 65535, Virtuals: []uint16{0}}, {Flags: 3, Super: 65535, Virtuals: []uint16{65535}}, {Flags: 3, Super: 65535, Sigs: []api.Sig{{}}, Fields: []api.Type{short}},
		{Sigs: []api.Sig{{}}}, {Super: 65535, Sigs: []api.Sig{{}}}, {Flags: 2, Sigs: []api.Sig{plain}}, {Flags: 4, Sigs: []api.Sig{plain}}, {Flags: 6, Super: 3, Fields: []api.Type{short}, Sigs: []api.Sig{plain, {}}},
		{Fields: []api.Type{{}}}, {Fields: []api.Type{short, {}}}, {Flags: 1, Super: 65535, Sigs: []api.Sig{{Params: []api.Type{{}}}}},
		{Ifaces: make([]api.Iface, 17)}, {Ifaces: make([]api.Iface, 255)}, {Ifaces: make([]api.Iface, 256)}, {Ifaces: make([]api.Iface, 257)}, {Ifaces: make([]api.Iface, 272)},
		{Ifaces: []api.Iface{{Map: make([]byte, 256)}}}, {Ifaces: []api.Iface{{Map: make([]byte, 257)}}}, {Ifaces: []api.Iface{{Map: make([]byte, 65536)}}}, {Ifaces: append(make([]api.Iface, 15), api.Iface{Map: make([]byte, 256)})},
		{Fields: repeat(short, 256)}, {Fields: repeat(short, 257)}, {Fields: repeat(short, 512)}, {Virtuals: make([]uint16, 256)}, {Virtuals: make([]uint16, 257)}, {Virtuals: make([]uint16, 65536)},
		{Flags: 1, Super: 65535, Sigs: make([]api.Sig, 256)}, {Flags: 3, Super: 65535, Sigs: make([]api.Sig, 257)}, {Flags: 3, Super: 65535, Sigs: make([]api.Sig, 512)},
	}
}

// repeat: n times the same.
func repeat[T any](x T, n int) []T { return slices.Repeat([]T{x}, n) }

// isPut: May says yes, and Put answers these bytes.
func isPut(t *testing.T, l []api.Class, want []byte) {
	t.Helper()
	for _, c := range l {
		if !class.May(c) {
			t.Errorf("May(%v) is no", c)
		}
	}
	if b, e := class.Put(l); !bytes.Equal(b, want) || e != api.OK {
		t.Errorf("Put(%v) = %x, %v; not %x", l, b, e, want)
	}
}

// unput: Put refuses, with nothing beside the error.
func unput(t *testing.T, l []api.Class, want api.Errno) {
	t.Helper()
	if b, e := class.Put(l); len(b) != 0 || e != want {
		t.Errorf("Put of %d = %x, %v; not %v", len(l), b, e, want)
	}
}

// checkPut: one class, held against the chapter's words.
func checkPut(t *testing.T, c api.Class) {
	t.Helper()
	if isClass(c) {
		isPut(t, []api.Class{c}, rowBytes([]api.Class{c}))
		return
	}
	if class.May(c) {
		t.Errorf("May(%v) is yes", c)
	}
	unput(t, []api.Class{c}, api.ErrArg)
}

// P8.1: the chapter's examples.
func TestPutExamples(t *testing.T) {
	unput(t, []api.Class{{Flags: 1}}, api.ErrArg)
	isPut(t, []api.Class{{Flags: 1, Super: 65535}}, hx("01 01 00"))
	isPut(t, nil, hx("00"))
	isPut(t, []api.Class{}, hx("00"))
	isPut(t, make([]api.Class, 0, 9), hx("00"))
}

// P8.1, P8.2: each sample, by itself, ahead of another one, behind it, twice, and all of them.
func TestSamples(t *testing.T) {
	var all []api.Class
	var told string
	for _, s := range samples() {
		for _, other := range []sample{interfaces()[4], classes()[8]} {
			for _, x := range []struct {
				l []api.Class
				b string
			}{
				{[]api.Class{s.c}, "01" + s.b},
				{[]api.Class{s.c, other.c}, "02" + s.b + other.b},
				{[]api.Class{other.c, s.c}, "02" + other.b + s.b},
				{[]api.Class{s.c, other.c, s.c}, "03" + s.b + other.b + s.b},
			} {
				isPut(t, x.l, hx(x.b))
				isGot(t, hx(x.b), x.l)
			}
		}
		all, told = append(all, s.c), told+s.b
	}
	isPut(t, all, append([]byte{byte(len(all))}, hx(told)...))
	isGot(t, append([]byte{byte(len(all))}, hx(told)...), all)
}

// P8.1: lists that are nil and lists without elements are the same, of what a kind does not have, too.
func TestEmpty(t *testing.T) {
	none := api.Class{Ifaces: []api.Iface{}, Fields: []api.Type{}, Virtuals: []uint16{}, Sigs: []api.Sig{}}
	isPut(t, []api.Class{none}, hx("01 00 00 00 00 00 00"))
	none.Ifaces = []api.Iface{{Map: []byte{}}}
	isPut(t, []api.Class{none}, hx("01 00 00 00 01 00 00 00 00 00"))
	none = api.Class{Flags: 3, Super: 65535, Ifaces: []api.Iface{}, Fields: make([]api.Type, 0, 3), Virtuals: []uint16{}, Sigs: []api.Sig{}}
	isPut(t, []api.Class{none}, hx("01 03 00"))
	none.Sigs = []api.Sig{{Params: []api.Type{}}}
	isPut(t, []api.Class{none}, hx("01 03 01 00 00"))
}

// P8.1, P8.2: each number of Flags, with the bytes of a class or of an interface behind it.
func TestFlags(t *testing.T) {
	for n := range 256 {
		f := uint8(n)
		checkPut(t, api.Class{Flags: f})
		checkPut(t, api.Class{Flags: f, Super: 65535})
		checkPut(t, api.Class{Flags: f, Super: 65535, Sigs: []api.Sig{plain}})
		checkPut(t, api.Class{Flags: f, Super: 5, Fields: []api.Type{short}})
		var l []api.Class
		switch n {
		case 0, 2, 4, 6:
			l = []api.Class{{Flags: f, Super: 5, Virtuals: []uint16{9}}}
		case 1, 3:
			l = []api.Class{{Flags: f, Super: 65535, Sigs: []api.Sig{plain}}}
		}
		b := []byte{1, f, 1, 3, 0}
		if n%2 == 0 {
			b = []byte{1, f, 0, 5, 0, 0, 1, 0, 9}
		}
		if l == nil {
			ungot(t, b, api.ErrForm)
			continue
		}
		isPut(t, l, b)
		isGot(t, b, l)
	}
}

// P8.1, P8.2: each Super; of an interface there is one alone.
func TestSupers(t *testing.T) {
	for n := range 65536 {
		w := uint16(n)
		for _, f := range []uint8{0, 2, 4, 6} {
			b := []byte{1, f, byte(n / 256), byte(n % 256), 0, 0, 0}
			isPut(t, []api.Class{{Flags: f, Super: w}}, b)
			isGot(t, b, []api.Class{{Flags: f, Super: w}})
		}
		for _, f := range []uint8{1, 3} {
			c := api.Class{Flags: f, Super: w}
			if class.May(c) != (n == 65535) {
				t.Errorf("May(%v) = %t", c, class.May(c))
			}
			checkPut(t, c)
		}
	}
}

// P8.1, P8.2: each number of a method, each reference to an interface, each number of a type's class.
func TestNumbers(t *testing.T) {
	for n := range 65536 {
		w, high, low := uint16(n), byte(n/256), byte(n%256)
		for _, x := range []struct {
			c api.Class
			b []byte
		}{
			{api.Class{Virtuals: []uint16{7, w}}, []byte{1, 0, 0, 0, 0, 0, 2, 0, 7, high, low}},
			{api.Class{Ifaces: []api.Iface{{Ref: w, Map: []byte{low, high}}}}, []byte{1, 0, 0, 0, 1, high, low, 2, low, high, 0, 0}},
			{api.Class{Fields: []api.Type{{Kind: 4, Class: w}, {Kind: 8, Class: w}}}, []byte{1, 0, 0, 0, 0, 2, 4, high, low, 8, high, low, 0}},
			{api.Class{Flags: 1, Super: 65535, Sigs: []api.Sig{{Ret: api.Type{Kind: 8, Class: w}, Params: []api.Type{{Kind: 4, Class: w}}}}}, []byte{1, 1, 1, 8, high, low, 1, 4, high, low}},
		} {
			isPut(t, []api.Class{x.c}, x.b)
			isGot(t, x.b, []api.Class{x.c})
		}
	}
}

// P8.1, P8.2: none, one, many, as many of each list as there may be, and more.
func TestLists(t *testing.T) {
	s := stream(3)
	for _, n := range []int{0, 1, 2, 15, 16, 17, 18, 127, 128, 254, 255, 256, 257, 271, 272, 511, 512, 65535, 65536, 65537} {
		ifaces := api.Class{Ifaces: fill(n, s.iface)}
		fields := api.Class{Flags: 4, Fields: fill(n, s.kind)}
		virtuals := api.Class{Flags: 2, Virtuals: fill(n, s.word)}
		sigs := api.Class{Flags: 1, Super: 65535, Sigs: fill(n, s.sig)}
		aMap := api.Class{Ifaces: []api.Iface{{Ref: 9}, {Ref: 8, Map: fill(n, s.byte)}}}
		for _, c := range []api.Class{ifaces, fields, virtuals, sigs, aMap} {
			may := n <= 255 && len(c.Ifaces) <= 16
			if class.May(c) != may {
				t.Errorf("May of %d is %t", n, !may)
			}
			checkPut(t, c)
			if may {
				isGot(t, rowBytes([]api.Class{c}), []api.Class{c})
			}
		}
	}
	full := api.Class{Ifaces: repeat(api.Iface{Ref: 513, Map: fill(255, s.byte)}, 16), Fields: fill(255, s.kind), Virtuals: fill(255, s.word)}
	checkPut(t, full)
	isGot(t, rowBytes(repeat(full, 64)), repeat(full, 64))
}

// P8.1: what is no class is refused wherever it stands, ahead of there being too many.
func TestPutWrong(t *testing.T) {
	for _, c := range wrong() {
		if isClass(c) {
			t.Fatalf("%v is one", c)
		}
		checkPut(t, c)
		for _, n := range []int{2, 3, 64, 65, 66, 256, 300} {
			for _, at := range []int{0, 1, n / 2, n - 2, n - 1} {
				l := row(n, at)
				l[at] = c
				unput(t, l, api.ErrArg)
			}
		}
	}
}

// P8.1: each kind with each of its fields as it may be and not, and with the other kind's.
func TestPutFields(t *testing.T) {
	for _, f := range []uint8{0, 1, 2, 3, 4, 5, 6, 7, 8, 9} {
		for _, super := range []uint16{0, 1, 65534, 65535} {
			for _, ifaces := range [][]api.Iface{nil, {}, {{}}, {{Ref: 3, Map: []byte{1}}}, make([]api.Iface, 16), make([]api.Iface, 17)} {
				for _, fields := range [][]api.Type{nil, {}, {short}, {{}}, {{Kind: 4, Class: 9}}, {{Kind: 3, Class: 9}}} {
					for _, virtuals := range [][]uint16{nil, {}, {0}, {65534, 65535}} {
						for _, sigs := range [][]api.Sig{nil, {}, {{}}, {plain}, {{Ret: api.Type{Class: 1}}}} {
							checkPut(t, api.Class{Flags: f, Super: super, Ifaces: ifaces, Fields: fields, Virtuals: virtuals, Sigs: sigs})
						}
					}
				}
			}
		}
	}
}

// P8.1: types and signatures that are none, at each place of their list.
func TestPutTypes(t *testing.T) {
	for _, n := range []int{1, 2, 3, 255} {
		for at := range n {
			for _, x := range noTypes() {
				l := repeat(short, n)
				l[at] = x
				checkPut(t, api.Class{Fields: l})
			}
			for _, x := range noSigs() {
				l := repeat(plain, n)
				l[at] = x
				checkPut(t, api.Class{Flags: 1, Super: 65535, Sigs: l})
			}
		}
	}
	for _, x := range append(noTypes(), short, api.Type{Kind: 8, Class: 5}) {
		if class.May(api.Class{Fields: []api.Type{x}}) != isType(x) {
			t.Errorf("May of a field %v is %t", x, !isType(x))
		}
	}
}

// P8.1: rows of none, one, many, as many as there may be, and more.
func TestRows(t *testing.T) {
	for _, n := range counts() {
		for from := range 5 {
			l := row(n, from)
			isPut(t, l, rowBytes(l))
			isGot(t, rowBytes(l), l)
		}
	}
	for _, n := range []int{65, 66, 127, 128, 255, 256, 257, 319, 320, 321, 65536} {
		unput(t, row(n, n), api.ErrLimit)
	}
}
