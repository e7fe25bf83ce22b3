package class_test

import (
	"bytes"
	"slices"
	"testing"

	"garderobe/api"
	"garderobe/class"
)

// A piece is one list, with the room behind its end: spoil puts something else wherever it reaches, stays tells whether it is as it was when the piece was made.
type piece struct {
	name  string
	spoil func()
	stays func() bool
}

func pieceOf[T any](name string, l []T, junk T, same func(a, b T) bool) piece {
	l = l[:cap(l)]
	was := slices.Clone(l)
	return piece{
		name: name,
		spoil: func() {
			for i := range l {
				l[i] = junk
			}
		},
		stays: func() bool { return slices.EqualFunc(l, was, same) },
	}
}

func is[T comparable](a, b T) bool { return a == b }

func typesPiece(name string, l []api.Type) piece {
	return pieceOf(name, l, api.Type{Kind: 99, Class: 9999}, is[api.Type])
}

// numbersOnly: a class's numbers are the same; its lists are pieces of their own.
func numbersOnly(a, b api.Class) bool { return a.Flags == b.Flags && a.Super == b.Super }

// pieces: all lists that classes are made of, each by itself.
func pieces(l []api.Class) []piece {
	all := []piece{pieceOf("classes", l, api.Class{Flags: 99, Super: 9999}, numbersOnly)}
	for _, c := range l {
		all = append(all,
			pieceOf("Ifaces", c.Ifaces, api.Iface{Ref: 9999}, func(a, b api.Iface) bool { return a.Ref == b.Ref }),
			typesPiece("Fields", c.Fields),
			pieceOf("Virtuals", c.Virtuals, 9999, is[uint16]),
			pieceOf("Sigs", c.Sigs, api.Sig{Ret: api.Type{Kind: 99}}, func(a, b api.Sig) bool { return a.Ret == b.Ret }))
		for _, i := range c.Ifaces {
			all = append(all, bytesPiece("Map", i.Map))
		}
		for _, s := range c.Sigs {
			all = append(all, typesPiece("Params", s.Params))
		}
	}
	return all
}

func bytesPiece(name string, b []byte) piece { return pieceOf(name, b, 99, is[byte]) }

// check: each of these stays.
func check(t *testing.T, when string, all []piece) {
	t.Helper()
	for _, p := range all {
		if !p.stays() {
			t.Errorf("%s: %s did not stay", when, p.name)
		}
	}
}

func spoilAll(all []piece) {
	for _, p := range all {
		p.spoil()
	}
}

// with: l with a few others in the room behind its end.
func with[T any](l []T, other T) []T {
	room := append(slices.Clone(l), other, other, other)
	return room[:len(l):len(room)]
}

// roomy: classes like these in memory of their own, with others in the room behind each of their lists.
func roomy(l []api.Class) []api.Class {
	l = slices.Clone(l)
	for i, c := range l {
		c.Ifaces, c.Sigs = slices.Clone(c.Ifaces), slices.Clone(c.Sigs)
		for j := range c.Ifaces {
			c.Ifaces[j].Map = with(c.Ifaces[j].Map, 7)
		}
		for j := range c.Sigs {
			c.Sigs[j].Params = with(c.Sigs[j].Params, short)
		}
		l[i] = api.Class{
			Flags: c.Flags, Super: c.Super, Ifaces: with(c.Ifaces, api.Iface{Ref: 7}), Fields: with(c.Fields, short),
			Virtuals: with(c.Virtuals, 7), Sigs: with(c.Sigs, plain),
		}
	}
	return with(l, api.Class{Super: 7})
}

// rich: classes with many of each list, more lists in memory of their own than one.
func rich(n int) []api.Class {
	s := stream(n)
	l := fill(n, s.class)
	for _, c := range []api.Class{
		{Ifaces: []api.Iface{{Ref: 1, Map: []byte{1, 2, 3}}, {Ref: 2, Map: []byte{4, 5}}, {Ref: 3, Map: []byte{6}}}, Fields: fill(9, s.kind), Virtuals: fill(9, s.word)},
		{Flags: 3, Super: 65535, Sigs: []api.Sig{{Params: fill(15, s.kind)}, {Ret: short, Params: fill(5, s.kind)}, {Params: fill(1, s.kind)}}},
	} {
		l = append(l, c)
	}
	return l
}

// What is handed in stays as it is, the room behind each of its lists too, whatever becomes of the answer; of what is refused, too.
func TestHandedInStays(t *testing.T) {
	for _, n := range []int{0, 1, 5, 40} {
		l := roomy(rich(n))
		were := pieces(l)
		for _, c := range l {
			class.May(c)
		}
		b, e := class.Put(l)
		if e != api.OK {
			t.Fatalf("Put: %v", e)
		}
		bytesPiece("", b).spoil()
		check(t, "Put", were)
		b = with(rowBytes(l), 7)
		was := []piece{bytesPiece("bytes", b)}
		got, _ := class.Get(b)
		spoilAll(pieces(got))
		check(t, "Get", was)
		for _, size := range []int{1, len(b) / 2, len(b) - 1} {
			_, _ = class.Get(b[:size])
		}
		_, _ = class.Get(append(slices.Clone(b), 7))
		check(t, "Get", was)
	}
	for _, l := range [][]api.Class{wrong(), row(65, 0), append(row(70, 0), api.Class{Flags: 8})} {
		l = roomy(l)
		were := pieces(l)
		_, _ = class.Put(l)
		for i, c := range l {
			_, _ = class.Put(l[i : i+1])
			class.May(c)
		}
		check(t, "refused", were)
	}
}

// No two lists of one answer share anything, room behind their ends neither.
func TestListsApart(t *testing.T) {
	b := rowBytes(rich(6))
	got, _ := class.Get(b)
	for n := range pieces(got) {
		got, _ := class.Get(b)
		all := pieces(got)
		all[n].spoil()
		check(t, "spoilt "+all[n].name, slices.Delete(all, n, n+1))
	}
}

// Two answers share nothing, nor an answer and what it came from: what becomes of one is not seen in the other.
func TestAnswersApart(t *testing.T) {
	for _, n := range []int{0, 1, 6, 60} {
		l := roomy(rich(n))
		b := rowBytes(l)
		put, _ := class.Put(l)
		other, _ := class.Put(l)
		bytesPiece("", other).spoil()
		got, _ := class.Get(b)
		others, _ := class.Get(b)
		spoilAll(pieces(others))
		spoilAll(pieces(l))
		bytesPiece("", b).spoil()
		if want := rowBytes(rich(n)); !bytes.Equal(put, want) {
			t.Errorf("Put's answer of %d became %x", n, put)
		}
		if !same(got, rich(n)) {
			t.Errorf("Get's answer of %d became %v", n, got)
		}
		isPut(t, rich(n), rowBytes(rich(n)))
		isGot(t, rowBytes(rich(n)), rich(n))
	}
}
