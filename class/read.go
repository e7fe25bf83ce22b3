package class

import (
	"garderobe/api"
	"garderobe/ends"
	"garderobe/types"
)

// A reader takes fields off bytes, from the left. Its first error stays, and behind it nothing is taken off any more: each field is zero.
type reader struct {
	b  []byte
	at int
	e  api.Errno
}

// A classReader takes off what is made of a reader's fields.
type classReader struct{ reader }

// takeClass: a class or an interface, which may be.
func (r *classReader) takeClass() api.Class {
	c := api.Class{Flags: r.takeByte()}
	if isInterface(c) {
		c.Super = noSuper
		c.Sigs = takeList(&r.reader, mostOthers, r.takeSig)
	} else {
		c.Super = r.takeWord()
		c.Ifaces = takeList(&r.reader, mostIfaces, r.takeIface)
		c.Fields = takeList(&r.reader, mostOthers, r.takeType)
		c.Virtuals = takeList(&r.reader, mostOthers, r.takeWord)
	}
	// Not ahead of its end: a class of wrong Flags that ends too soon is told to be short.
	if !May(c) {
		r.fail(api.ErrForm)
	}
	return c
}

func (r *classReader) takeIface() api.Iface {
	return api.Iface{Ref: r.takeWord(), Map: r.takeRow()}
}

// takeList: how many there are, and they, each taken off as the function does.
func takeList[T any](r *reader, most int, takeOne func() T) []T {
	n := int(r.takeByte())
	if n > most {
		r.fail(api.ErrLimit)
	}
	var l []T
	for range n {
		if r.e != api.OK {
			return nil
		}
		l = append(l, takeOne())
	}
	return l
}

func (r *reader) takeByte() uint8 { return uint8(r.takeNumber(byteSize)) }

func (r *reader) takeWord() uint16 { return uint16(r.takeNumber(wordSize)) }

func (r *reader) takeNumber(size int) uint32 {
	return take(r, func(b []byte, at int) (uint32, int, api.Errno) {
		n, e := ends.Get(b, at, size)
		return n, at + size, e
	})
}

// takeRow: the bytes of a row whose count is a byte.
func (r *reader) takeRow() []byte {
	return take(r, func(b []byte, at int) ([]byte, int, api.Errno) {
		return ends.GetRow(b, at, byteSize)
	})
}

func (r *reader) takeType() api.Type { return take(r, types.Get) }

func (r *reader) takeSig() api.Sig { return take(r, types.GetSig) }

// take: the field that a lower layer gets at the reader's place.
func take[T any](r *reader, get func(b []byte, at int) (T, int, api.Errno)) T {
	var none T
	if r.e != api.OK {
		return none
	}
	x, next, e := get(r.b, r.at)
	if e != api.OK {
		r.fail(e)
		return none
	}
	r.at = next
	return x
}

// fail: keeps the first error.
func (r *reader) fail(e api.Errno) {
	if r.e == api.OK {
		r.e = e
	}
}
