package class_test

import (
	"bytes"
	"slices"

	"garderobe/api"
)

// The chapter's words for word, so that the tests don't lean on what they test.

func isType(t api.Type) bool {
	switch t.Kind {
	case 4, 8:
		return true
	case 1, 2, 3, 5, 6, 7:
		return t.Class == 0
	}
	return false
}

func isSig(s api.Sig) bool {
	may := isType(s.Ret) || s.Ret.Kind == 0 && s.Ret.Class == 0
	for _, t := range s.Params {
		may = may && isType(t)
	}
	return may && len(s.Params) < 16
}

func isClass(c api.Class) bool {
	may := len(c.Ifaces) < 17 && len(c.Fields) < 256 && len(c.Virtuals) < 256 && len(c.Sigs) < 256
	switch c.Flags {
	case 1, 3:
		may = may && c.Super == 65535 && len(c.Ifaces)+len(c.Fields)+len(c.Virtuals) == 0
	case 0, 2, 4, 6:
		may = may && len(c.Sigs) == 0
	default:
		return false
	}
	for _, i := range c.Ifaces {
		may = may && len(i.Map) < 256
	}
	for _, t := range c.Fields {
		may = may && isType(t)
	}
	for _, s := range c.Sigs {
		may = may && isSig(s)
	}
	return may
}

func wordBytes(n uint16) []byte { return []byte{byte(n / 256), byte(n % 256)} }

func typeBytes(t api.Type) []byte {
	if t.Kind == 4 || t.Kind == 8 {
		return append([]byte{byte(t.Kind)}, wordBytes(t.Class)...)
	}
	return []byte{byte(t.Kind)}
}

func classBytes(c api.Class) []byte {
	b := []byte{c.Flags}
	if c.Flags%2 == 1 {
		b = append(b, byte(len(c.Sigs)))
		for _, s := range c.Sigs {
			b = append(append(b, typeBytes(s.Ret)...), byte(len(s.Params)))
			for _, t := range s.Params {
				b = append(b, typeBytes(t)...)
			}
		}
		return b
	}
	b = append(append(b, wordBytes(c.Super)...), byte(len(c.Ifaces)))
	for _, i := range c.Ifaces {
		b = append(append(b, wordBytes(i.Ref)...), byte(len(i.Map)))
		b = append(b, i.Map...)
	}
	b = append(b, byte(len(c.Fields)))
	for _, t := range c.Fields {
		b = append(b, typeBytes(t)...)
	}
	b = append(b, byte(len(c.Virtuals)))
	for _, v := range c.Virtuals {
		b = append(b, wordBytes(v)...)
	}
	return b
}

func rowBytes(l []api.Class) []byte {
	b := []byte{byte(len(l))}
	for _, c := range l {
		b = append(b, classBytes(c)...)
	}
	return b
}

// A told is bytes that are read from the left; it panics with the first error.
type told []byte

func (b *told) next(n int) []byte {
	if len(*b) < n {
		panic(api.ErrShort)
	}
	x := (*b)[:n]
	*b = (*b)[n:]
	return bytes.Clone(x)
}

func (b *told) byte() int { return int(b.next(1)[0]) }

func (b *told) word() uint16 {
	x := b.next(2)
	return uint16(x[0])*256 + uint16(x[1])
}

func (b *told) kind(none bool) api.Type {
	k := b.byte()
	if k > 8 || k == 0 && !none {
		panic(api.ErrForm)
	}
	if k == 4 || k == 8 {
		return api.Type{Kind: api.Kind(k), Class: b.word()}
	}
	return api.Type{Kind: api.Kind(k)}
}

func (b *told) sig() api.Sig {
	s := api.Sig{Ret: b.kind(true)}
	n := b.byte()
	if n > 15 {
		panic(api.ErrForm)
	}
	for range n {
		s.Params = append(s.Params, b.kind(false))
	}
	return s
}

func (b *told) class() api.Class {
	c := api.Class{Flags: b.next(1)[0]}
	if c.Flags%2 == 1 {
		c.Super = 65535
		for range b.byte() {
			c.Sigs = append(c.Sigs, b.sig())
		}
	} else {
		c.Super = b.word()
		n := b.byte()
		if n > 16 {
			panic(api.ErrLimit)
		}
		for range n {
			i := api.Iface{Ref: b.word()}
			i.Map = b.next(b.byte())
			c.Ifaces = append(c.Ifaces, i)
		}
		for range b.byte() {
			c.Fields = append(c.Fields, b.kind(false))
		}
		for range b.byte() {
			c.Virtuals = append(c.Virtuals, b.word())
		}
	}
	if c.Flags > 7 || c.Flags == 5 || c.Flags == 7 {
		panic(api.ErrForm)
	}
	return c
}

// readRow: what Get should answer.
func readRow(all []byte) (l []api.Class, e api.Errno) {
	defer func() {
		if x := recover(); x != nil {
			l, e = nil, x.(api.Errno)
		}
	}()
	b := told(all)
	n := b.byte()
	if n > 64 {
		panic(api.ErrLimit)
	}
	for range n {
		l = append(l, b.class())
	}
	if len(b) > 0 {
		panic(api.ErrForm)
	}
	return l, api.OK
}

// same: in all fields; lists that are nil and lists without elements are the same.
func same(a, b []api.Class) bool { return slices.EqualFunc(a, b, sameClass) }

func sameClass(a, b api.Class) bool {
	return a.Flags == b.Flags && a.Super == b.Super && slices.EqualFunc(a.Ifaces, b.Ifaces, sameIface) &&
		slices.Equal(a.Fields, b.Fields) && slices.Equal(a.Virtuals, b.Virtuals) && slices.EqualFunc(a.Sigs, b.Sigs, sameSig)
}

func sameIface(a, b api.Iface) bool { return a.Ref == b.Ref && bytes.Equal(a.Map, b.Map) }

func sameSig(a, b api.Sig) bool { return a.Ret == b.Ret && slices.Equal(a.Params, b.Params) }

// A stream of numbers that come one behind the other the same way each time.
type stream uint32

func (s *stream) below(n int) int {
	*s = *s*1664525 + 1013904223
	return int(uint64(*s) * uint64(n) >> 32)
}

func (s *stream) byte() byte { return byte(s.below(256)) }

func (s *stream) word() uint16 {
	if s.below(4) == 0 {
		return []uint16{0, 255, 256, 32767, 32768, 65533, 65534, 65535}[s.below(8)]
	}
	return uint16(s.below(65536))
}

// kind: a type.
func (s *stream) kind() api.Type {
	t := api.Type{Kind: api.Kind(1 + s.below(8))}
	if t.Kind == 4 || t.Kind == 8 {
		t.Class = s.word()
	}
	return t
}

func (s *stream) sig() api.Sig {
	sig := api.Sig{Params: fill(s.few(15), s.kind)}
	if s.below(3) > 0 {
		sig.Ret = s.kind()
	}
	return sig
}

func (s *stream) iface() api.Iface { return api.Iface{Ref: s.word(), Map: fill(s.few(255), s.byte)} }

// class: one that may be.
func (s *stream) class() api.Class {
	if s.below(3) == 0 {
		return api.Class{Flags: uint8(1 + 2*s.below(2)), Super: 65535, Sigs: fill(s.few(255), s.sig)}
	}
	return api.Class{Flags: uint8(2 * s.below(4)), Super: s.word(), Ifaces: fill(s.few(16), s.iface), Fields: fill(s.few(255), s.kind), Virtuals: fill(s.few(255), s.word)}
}

// few: a small number mostly, now and then up to the most.
func (s *stream) few(most int) int {
	if s.below(60) == 0 {
		return s.below(most + 1)
	}
	return s.below(4)
}

// fill: n of what a function makes.
func fill[T any](n int, one func() T) []T {
	var l []T
	for range n {
		l = append(l, one())
	}
	return l
}

// row: n classes, one behind the other of other fields, from a place of the samples on.
func row(n, from int) []api.Class {
	all := samples()
	var l []api.Class
	for i := range n {
		l = append(l, all[(from+i*5)%len(all)].c)
	}
	return l
}

// counts: how many classes there may be.
func counts() []int { return []int{0, 1, 2, 3, 7, 22, 31, 32, 63, 64} }
