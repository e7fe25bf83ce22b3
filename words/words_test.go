package words_test

import (
	"testing"

	"garderobe/api"
	"garderobe/words"
)

// edges: words at which a sign, a carry or a count of moves changes.
func edges() []uint16 {
	return []uint16{
		0, 1, 2, 3, 5, 7, 8, 10, 15, 16, 17, 20, 30, 31, 32, 33, 47, 48, 63, 64, 100,
		127, 128, 129, 181, 182, 200, 255, 256, 257, 300, 1000, 4095, 4096, 16383, 16384, 21845, 32735,
		32766, 32767, 32768, 32769, 32770, 33000, 43690, 49151, 49152, 50000, 65280, 65407, 65408,
		65503, 65504, 65519, 65520, 65529, 65533, 65534, 65535,
	}
}

func everyWord(f func(a uint16)) {
	for a := 0; a < 65536; a++ {
		f(uint16(a))
	}
}

// worth: the chapter's word for word, so that the tests don't lean on what they test.
func worth(a uint16) int64 {
	if a >= 32768 {
		return int64(a) - 65536
	}
	return int64(a)
}

// word: a worth's lowest 16 bits, without a conversion of 16 bits.
func word(n int64) uint16 {
	return uint16(((n % 65536) + 65536) % 65536)
}

func size(n int64) int64 {
	if n < 0 {
		return -n
	}
	return n
}

func wantDiv(a, b uint16) int64 {
	q := size(worth(a)) / size(worth(b))
	if worth(a) < 0 != (worth(b) < 0) {
		return -q
	}
	return q
}

func wantRem(a, b uint16) int64 {
	r := size(worth(a)) % size(worth(b))
	if worth(a) < 0 {
		return -r
	}
	return r
}

func twice(n int64, times uint16) int64 {
	for ; times > 0; times-- {
		n *= 2
	}
	return n
}

// half: rounded downward, so that a sign goes down with the rest.
func half(n int64, times uint16) int64 {
	for ; times > 0; times-- {
		if n%2 != 0 {
			n--
		}
		n /= 2
	}
	return n
}

// bits: a word of the bits at which on holds, told bit by bit.
func bits(a, b uint16, on func(x, y uint16) bool) uint16 {
	n, one := uint16(0), uint16(1)
	for range 16 {
		if on(a%2, b%2) {
			n += one
		}
		a, b, one = a/2, b/2, one*2
	}
	return n
}

// want: what the chapter says of an operator that there is; a divisor is not 0.
func want(op api.Arith, a, b uint16) uint16 {
	switch op {
	case api.Add:
		return word(worth(a) + worth(b))
	case api.Sub:
		return word(worth(a) - worth(b))
	case api.Mul:
		return word(worth(a) * worth(b))
	case api.Div:
		return word(wantDiv(a, b))
	case api.Rem:
		return word(wantRem(a, b))
	case api.Shl:
		return word(twice(worth(a), b%32))
	case api.Shr:
		return word(half(worth(a), b%32))
	case api.Ushr:
		n := worth(a)
		if n < 0 {
			n += 4294967296
		}
		return word(half(n, b%32))
	case api.And:
		return bits(a, b, func(x, y uint16) bool { return x == 1 && y == 1 })
	case api.Or:
		return bits(a, b, func(x, y uint16) bool { return x == 1 || y == 1 })
	default:
		return bits(a, b, func(x, y uint16) bool { return x != y })
	}
}

// two: Two of what may neither fault nor err.
func two(t *testing.T, op api.Arith, a, b uint16) uint16 {
	v, f, e := words.Two(op, a, b)
	if f != api.NoFault || e != api.OK {
		t.Fatalf("Two(%d, %d, %d) = %d, fault %d, %v", op, a, b, v, f, e)
	}
	return v
}

// is: Is of a condition that there is.
func is(t *testing.T, c api.Cond, a, b uint16) bool {
	yes, e := words.Is(c, a, b)
	if e != api.OK {
		t.Fatalf("Is(%d, %d, %d) = %t, %v", c, a, b, yes, e)
	}
	return yes
}

// P1.1: written out by hand, the chapter's examples among them.
func TestTwoExamples(t *testing.T) {
	for _, c := range []struct {
		op   api.Arith
		a, b uint16
		v    uint16
	}{
		{api.Add, 65535, 2, 1}, {api.Add, 32767, 1, 32768}, {api.Add, 32768, 32768, 0},
		{api.Sub, 0, 1, 65535}, {api.Sub, 5, 3, 2}, {api.Sub, 32768, 1, 32767}, {api.Sub, 0, 32768, 32768},
		{api.Mul, 300, 300, 24464}, {api.Mul, 65535, 65535, 1}, {api.Mul, 65535, 7, 65529}, {api.Mul, 32768, 65535, 32768},
		{api.Div, 32768, 65535, 32768}, {api.Div, 65529, 2, 65533}, {api.Div, 7, 65534, 65533}, {api.Div, 65529, 65534, 3}, {api.Div, 0, 65535, 0}, {api.Div, 1, 32768, 0},
		{api.Rem, 65529, 2, 65535}, {api.Rem, 7, 65533, 1}, {api.Rem, 65529, 65533, 65535}, {api.Rem, 32768, 65535, 0}, {api.Rem, 65535, 32768, 65535},
		{api.Shl, 1, 15, 32768}, {api.Shl, 1, 16, 0}, {api.Shl, 1, 31, 0}, {api.Shl, 1, 32, 1}, {api.Shl, 1, 33, 2}, {api.Shl, 3, 65535, 0}, {api.Shl, 3, 65504, 3},
		{api.Shr, 32768, 1, 49152}, {api.Shr, 32768, 20, 65535}, {api.Shr, 32768, 31, 65535}, {api.Shr, 32768, 32, 32768}, {api.Shr, 32767, 14, 1}, {api.Shr, 32767, 15, 0},
		{api.Ushr, 65535, 1, 65535}, {api.Ushr, 65535, 16, 65535}, {api.Ushr, 65535, 17, 32767}, {api.Ushr, 65535, 20, 4095}, {api.Ushr, 65535, 31, 1}, {api.Ushr, 65535, 32, 65535}, {api.Ushr, 32768, 1, 49152}, {api.Ushr, 8, 1, 4},
		{api.And, 12, 10, 8}, {api.And, 65535, 32768, 32768}, {api.Or, 12, 10, 14}, {api.Or, 32768, 1, 32769}, {api.Xor, 12, 10, 6}, {api.Xor, 65535, 1, 65534},
	} {
		if v := two(t, c.op, c.a, c.b); v != c.v {
			t.Errorf("Two(%d, %d, %d) = %d, not %d", c.op, c.a, c.b, v, c.v)
		}
	}
}

// P1.1: each operator at each pair of edges, and with each word on either side of some of them.
func TestTwoAsSaid(t *testing.T) {
	check := func(op api.Arith, a, b uint16) {
		if b == 0 && (op == api.Div || op == api.Rem) {
			return
		}
		if v := two(t, op, a, b); v != want(op, a, b) {
			t.Fatalf("Two(%d, %d, %d) = %d, not %d", op, a, b, v, want(op, a, b))
		}
	}
	for op := api.Add; op <= api.Xor; op++ {
		for _, a := range edges() {
			for _, b := range edges() {
				check(op, a, b)
			}
		}
		everyWord(func(a uint16) {
			check(op, a, 7)
			check(op, a, 65535)
			check(op, 32768, a)
		})
	}
}

// P1.1: by 0 nothing is divided, and beside the fault stands no number.
func TestTwoByNothing(t *testing.T) {
	for _, op := range []api.Arith{api.Div, api.Rem} {
		everyWord(func(a uint16) {
			if v, f, e := words.Two(op, a, 0); v != 0 || f != api.FaultArith || e != api.OK {
				t.Fatalf("Two(%d, %d, 0) = %d, fault %d, %v", op, a, v, f, e)
			}
		})
	}
}

// P1.1: an operator that there is not is an error, by 0 too, and nothing beside it.
func TestTwoNoOperator(t *testing.T) {
	for n := 0; n < 256; n++ {
		op := api.Arith(n)
		if op >= api.Add && op <= api.Xor {
			continue
		}
		for _, b := range []uint16{0, 1, 65535} {
			if v, f, e := words.Two(op, 1, b); v != 0 || f != api.NoFault || e != api.ErrArg {
				t.Errorf("Two(%d, 1, %d) = %d, fault %d, %v", op, b, v, f, e)
			}
		}
	}
}

// P1.2: written out by hand, the chapter's examples among them.
func TestOneExamples(t *testing.T) {
	for _, c := range []struct{ a, neg, low uint16 }{
		{0, 0, 0}, {1, 65535, 1}, {65535, 1, 65535}, {32768, 32768, 0}, {32767, 32769, 65535}, {32769, 32767, 1},
		{127, 65409, 127}, {128, 65408, 65408}, {200, 65336, 65480}, {255, 65281, 65535}, {256, 65280, 0}, {383, 65153, 127}, {384, 65152, 65408},
	} {
		if v := words.Neg(c.a); v != c.neg {
			t.Errorf("Neg(%d) = %d, not %d", c.a, v, c.neg)
		}
		if v := words.Byte(c.a); v != c.low {
			t.Errorf("Byte(%d) = %d, not %d", c.a, v, c.low)
		}
	}
	for _, c := range []struct {
		a uint16
		n int
	}{{0, 0}, {1, 1}, {32767, 32767}, {32768, -32768}, {65535, -1}} {
		if n := words.Worth(c.a); n != c.n {
			t.Errorf("Worth(%d) = %d, not %d", c.a, n, c.n)
		}
	}
}

// P1.2: of every word, and of every byte.
func TestOneAsSaid(t *testing.T) {
	low := func(a uint16) uint16 {
		n := int64(a % 256)
		if n >= 128 {
			n -= 256
		}
		return word(n)
	}
	everyWord(func(a uint16) {
		if v := words.Neg(a); v != word(-worth(a)) {
			t.Fatalf("Neg(%d) = %d", a, v)
		}
		if v := words.Byte(a); v != low(a) {
			t.Fatalf("Byte(%d) = %d", a, v)
		}
		if n := words.Worth(a); int64(n) != worth(a) {
			t.Fatalf("Worth(%d) = %d", a, n)
		}
	})
	for b := 0; b < 256; b++ {
		if v := words.OfByte(byte(b)); v != low(uint16(b)) {
			t.Errorf("OfByte(%d) = %d", b, v)
		}
	}
}

// P1.3: below, the same and above, on either side of where the sign changes.
func TestIsExamples(t *testing.T) {
	for _, c := range []struct {
		a, b                   uint16
		eq, ne, lt, ge, gt, le bool
	}{
		{0, 0, true, false, false, true, false, true},
		{0, 1, false, true, true, false, false, true},
		{1, 0, false, true, false, true, true, false},
		{65535, 0, false, true, true, false, false, true},
		{0, 65535, false, true, false, true, true, false},
		{32768, 32767, false, true, true, false, false, true},
		{32767, 32768, false, true, false, true, true, false},
		{32768, 32768, true, false, false, true, false, true},
		{65535, 65534, false, true, false, true, true, false},
	} {
		got := [6]bool{is(t, api.CondEq, c.a, c.b), is(t, api.CondNe, c.a, c.b), is(t, api.CondLt, c.a, c.b), is(t, api.CondGe, c.a, c.b), is(t, api.CondGt, c.a, c.b), is(t, api.CondLe, c.a, c.b)}
		if got != [6]bool{c.eq, c.ne, c.lt, c.ge, c.gt, c.le} {
			t.Errorf("Is(1 to 6, %d, %d) = %t", c.a, c.b, got)
		}
	}
}

// P1.3: each condition, of each word with each edge.
func TestIsAsSaid(t *testing.T) {
	for _, b := range edges() {
		everyWord(func(a uint16) {
			x, y := worth(a), worth(b)
			for i, yes := range []bool{a == b, a != b, x < y, x >= y, x > y, x <= y} {
				if c := api.CondEq + api.Cond(i); is(t, c, a, b) != yes {
					t.Fatalf("Is(%d, %d, %d) isn't %t", c, a, b, yes)
				}
			}
		})
	}
}

// P1.3: a condition that there is not is an error, and holds of nothing.
func TestIsNoCondition(t *testing.T) {
	for n := 0; n < 256; n++ {
		c := api.Cond(n)
		if c >= api.CondEq && c <= api.CondLe {
			continue
		}
		for _, b := range []uint16{0, 1, 65535} {
			if yes, e := words.Is(c, 1, b); yes || e != api.ErrArg {
				t.Errorf("Is(%d, 1, %d) = %t, %v", c, b, yes, e)
			}
		}
	}
}

// P1.4: the quotient times the divisor, and what is left, give what was divided.
func TestQuotientAndRest(t *testing.T) {
	for _, b := range edges() {
		if b == 0 {
			continue
		}
		everyWord(func(a uint16) {
			whole := two(t, api.Mul, two(t, api.Div, a, b), b)
			if v := two(t, api.Add, whole, two(t, api.Rem, a, b)); v != a {
				t.Fatalf("of %d divided by %d: %d", a, b, v)
			}
		})
	}
}

// P1.4: Neg is its own contrary; Byte changes nothing the second time.
func TestTheSecondTime(t *testing.T) {
	everyWord(func(a uint16) {
		if v := words.Neg(words.Neg(a)); v != a {
			t.Fatalf("Neg(Neg(%d)) = %d", a, v)
		}
		if v := words.Byte(words.Byte(a)); v != words.Byte(a) {
			t.Fatalf("Byte(Byte(%d)) = %d", a, v)
		}
	})
}

// P1.4: two words are below, the same or above, and but one of these.
func TestJustOneHolds(t *testing.T) {
	for _, b := range edges() {
		everyWord(func(a uint16) {
			n := 0
			for _, c := range []api.Cond{api.CondLt, api.CondEq, api.CondGt} {
				if is(t, c, a, b) {
					n++
				}
			}
			if n != 1 {
				t.Fatalf("of %d and %d hold %d", a, b, n)
			}
		})
	}
}
