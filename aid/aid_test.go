package aid_test

import (
	"bytes"
	"math"
	"strings"
	"testing"

	"garderobe/aid"
	"garderobe/api"
)

// made: n bytes of which each differs from those about it.
func made(n int) []byte {
	b := make([]byte, n)
	for i := range b {
		b[i] = byte(i*7 + i/256 + 1)
	}
	return b
}

// isName, isSame, startsWith, lesser: the chapter's words for word, byte by byte, so that the tests don't lean on what they test.
func isName(b []byte) bool { return len(b) > 4 && len(b) < 17 }

func isSame(a, b []byte) bool { return len(a) == len(b) && startsWith(a, b) }

func startsWith(b, part []byte) bool {
	for i, x := range part {
		if i >= len(b) || b[i] != x {
			return false
		}
	}
	return true
}

func lesser(a, b []byte) bool {
	for i := range a {
		if i >= len(b) || a[i] > b[i] {
			return false
		}
		if a[i] < b[i] {
			return true
		}
	}
	return len(a) < len(b)
}

// rows: bytes of each size about a name's, of three sorts, with each single byte of them also another one, and some of which one begins with another.
func rows() [][]byte {
	all := [][]byte{nil, {}, {255}, {0, 0, 0, 0, 0}, {127, 255, 0, 128, 1}, {128, 255, 0, 127, 1}, bytes.Repeat([]byte{255}, 16)}
	for _, n := range []int{1, 4, 5, 6, 7, 15, 16, 17, 18, 40} {
		all = append(all, made(n), make([]byte, n))
		for i := range n {
			b := made(n)
			b[i] ^= 128
			c := made(n)
			c[i]++
			all = append(all, b, c)
		}
	}
	return all
}

// pairs: each of the rows beside each of them.
func pairs(f func(a, b []byte)) {
	for _, a := range rows() {
		for _, b := range rows() {
			f(a, b)
		}
	}
}

// versions: such as differ in one number, in both, in neither, at the edges of a byte and of its sign.
func versions(f func(v api.Version)) {
	for _, major := range []uint8{0, 1, 2, 127, 128, 254, 255} {
		for _, minor := range []uint8{0, 1, 2, 3, 127, 128, 254, 255} {
			f(api.Version{Major: major, Minor: minor})
		}
	}
}

// P3.1: a name is of 5 to 16 bytes, whatever they are.
func TestMay(t *testing.T) {
	if aid.May(nil) {
		t.Error("May(nil)")
	}
	for n := range 600 {
		for _, b := range [][]byte{make([]byte, n), made(n), bytes.Repeat([]byte{255}, n), make([]byte, n, n+20)} {
			if may := aid.May(b); may != (n >= 5 && n <= 16) {
				t.Errorf("May of %d bytes: %t", n, may)
			}
		}
	}
	if aid.May(make([]byte, 65536+5)) {
		t.Error("May of 65541 bytes")
	}
}

// P3.1: written out by hand.
func TestPutExamples(t *testing.T) {
	for _, c := range []struct {
		b, row string
		e      api.Errno
	}{
		{"abcde", "\x05abcde", api.OK}, {"\x00\x00\x00\x00\x00", "\x05\x00\x00\x00\x00\x00", api.OK}, {"\xff\x80\x7f\x00\x01\x02", "\x06\xff\x80\x7f\x00\x01\x02", api.OK},
		{"abcdefghijklmnop", "\x10abcdefghijklmnop", api.OK}, {"abcdefghijklmno", "\x0fabcdefghijklmno", api.OK},
		{"", "", api.ErrArg}, {"a", "", api.ErrArg}, {"abcd", "", api.ErrArg}, {"abcdefghijklmnopq", "", api.ErrArg},
	} {
		if row, e := aid.Put([]byte(c.b)); string(row) != c.row || e != c.e {
			t.Errorf("Put(%x) = %x, %v", c.b, row, e)
		}
	}
}

// P3.1: what is no name is an error of the argument, also where it is more than any row holds.
func TestPutWrong(t *testing.T) {
	for _, n := range []int{0, 1, 2, 3, 4, 17, 18, 32, 255, 256, 257, 261, 272, 65535, 65541} {
		if row, e := aid.Put(make([]byte, n)); len(row) != 0 || e != api.ErrArg {
			t.Errorf("Put of %d bytes: %x, %v", n, row, e)
		}
	}
	if row, e := aid.Put(nil); len(row) != 0 || e != api.ErrArg {
		t.Errorf("Put(nil) = %x, %v", row, e)
	}
}

// P3.1: written out by hand, the chapter's example among them.
func TestGetExamples(t *testing.T) {
	long := strings.Repeat("z", 16)
	for _, c := range []struct {
		b    string
		at   int
		name string
		next int
		e    api.Errno
	}{
		{"\x04\x01\x02\x03\x04", 0, "", 0, api.ErrForm},
		{"\x05abcde", 0, "abcde", 6, api.OK}, {"\x05abcdef", 0, "abcde", 6, api.OK}, {"xy\x06abcdef\x05", 2, "abcdef", 9, api.OK},
		{"\x10" + long, 0, long, 17, api.OK}, {"\x0f" + long, 0, long[1:], 16, api.OK}, {"\x11" + long + "z", 0, "", 0, api.ErrForm}, {"\x11" + long, 0, "", 0, api.ErrShort},
		{"\x00", 0, "", 0, api.ErrForm}, {"\x00abcde", 0, "", 0, api.ErrForm}, {"\x01a", 0, "", 0, api.ErrForm}, {"\x04abcdefgh", 0, "", 0, api.ErrForm},
		{"\x04abc", 0, "", 0, api.ErrShort}, {"\x05abcd", 0, "", 0, api.ErrShort}, {"\x05", 0, "", 0, api.ErrShort}, {"\x10" + long[1:], 0, "", 0, api.ErrShort},
		{"", 0, "", 0, api.ErrShort}, {"\x05abcde", 6, "", 0, api.ErrShort}, {"\x05abcde", 7, "", 0, api.ErrArg}, {"\x05abcde", -1, "", 0, api.ErrArg}, {"", 1, "", 0, api.ErrArg},
		{"\xff" + strings.Repeat("z", 255), 0, "", 0, api.ErrForm}, {"\xff" + strings.Repeat("z", 254), 0, "", 0, api.ErrShort},
	} {
		if name, next, e := aid.Get([]byte(c.b), c.at); string(name) != c.name || next != c.next || e != c.e {
			t.Errorf("Get(%x, %d) = %x, %d, %v", c.b, c.at, name, next, e)
		}
	}
}

// P3.1: a row of each size there is, at each of some places: too short ahead of no name.
func TestGetAsSaid(t *testing.T) {
	for n := range 256 {
		for _, at := range []int{0, 1, 5, 300} {
			for _, less := range []int{0, 1, 2, n} {
				if less > n {
					continue
				}
				all := append(append(made(at), byte(n)), made(n-less)...)
				want, next, e := made(n), at+1+n, api.OK
				if less > 0 {
					want, next, e = nil, 0, api.ErrShort
				} else if n < 5 || n > 16 {
					want, next, e = nil, 0, api.ErrForm
				}
				if name, g, f := aid.Get(all, at); !bytes.Equal(name, want) || g != next || f != e {
					t.Errorf("Get of %d bytes less %d at %d: %x, %d, %v", n, less, at, name, g, f)
				}
			}
		}
	}
}

// P3.1: a place outside is an error of the argument, whatever stands there, and nothing stands beside it.
func TestGetOutside(t *testing.T) {
	for _, b := range [][]byte{nil, {}, {5}, []byte("\x05abcde"), []byte("\x04abcd"), made(300)} {
		n := len(b)
		for _, at := range []int{math.MinInt, -1 << 32, -n - 1, -6, -1, n + 1, n + 2, 1<<32 + n, 1 << 32, math.MaxInt - 1, math.MaxInt} {
			if name, next, e := aid.Get(b, at); len(name) != 0 || next != 0 || e != api.ErrArg {
				t.Errorf("Get of %d bytes at %d: %x, %d, %v", n, at, name, next, e)
			}
		}
		if name, next, e := aid.Get(b, n); len(name) != 0 || next != 0 || e != api.ErrShort {
			t.Errorf("Get of %d bytes at their end: %x, %d, %v", n, name, next, e)
		}
	}
}

// P3.2: written out by hand: the same bytes, one that begins with the other one, bytes that are no names.
func TestCompareExamples(t *testing.T) {
	for _, c := range []struct {
		a, b                        string
		same, issuer, begins, ahead bool
	}{
		{"abcde", "abcde", true, true, true, false},
		{"abcde", "abcdef", false, true, false, true}, {"abcdef", "abcde", false, true, true, false},
		{"abcdef", "abcdeg", false, true, false, true}, {"abcdeg", "abcdef", false, true, false, false},
		{"abcde", "abcdf", false, false, false, true}, {"abcdf", "abcde", false, false, false, false}, {"bbcde", "abcde", false, false, false, false},
		{"abcdefghijklmnop", "abcde", false, true, true, false}, {"abcdefghijklmnop", "abcdefghijklmno", false, true, true, false}, {"abcdefghijklmnop", "abcdefghijklmnop", true, true, true, false},
		{"abcdefghijklmnopq", "abcdefghijklmnop", false, false, true, false}, {"abcdefghijklmnop", "abcdefghijklmnopq", false, false, false, true}, {"abcdefghijklmnopq", "abcdefghijklmnopq", true, false, true, false},
		{"abcde", "abcd", false, false, false, false}, {"abcd", "abcde", false, false, false, true}, {"abcd", "abcd", true, false, false, false},
		{"abcdef", "abcde\x00", false, true, false, false}, {"abcde", "abcde\x00", false, true, false, true},
		{"\x7fbcde", "\x80bcde", false, false, false, true}, {"\x80bcde", "\x7fbcde", false, false, false, false}, {"\x00\x00\x00\x00\x00", "\xff\xff\xff\xff\xff", false, false, false, true},
		{"abcdefg", "b", false, false, false, true}, {"b", "abcdefg", false, false, false, false},
		{"", "", true, false, false, false}, {"", "abcde", false, false, false, true}, {"abcde", "", false, false, false, false}, {"", "\x00", false, false, false, true},
	} {
		a, b := []byte(c.a), []byte(c.b)
		got := [4]bool{aid.Same(a, b), aid.Issuer(a, b), aid.Begins(a, b), aid.Ahead(a, b)}
		if got != [4]bool{c.same, c.issuer, c.begins, c.ahead} {
			t.Errorf("Same, Issuer, Begins, Ahead of %q and %q: %t", c.a, c.b, got)
		}
	}
	if aid.Begins([]byte{1, 2, 3, 4, 5, 6}, []byte{1, 2, 3, 4}) {
		t.Error("Begins with a part of four bytes")
	}
}

// P3.2: names and what is none, each beside each.
func TestCompareAsSaid(t *testing.T) {
	pairs(func(a, b []byte) {
		if got := aid.Same(a, b); got != isSame(a, b) {
			t.Errorf("Same(%x, %x) = %t", a, b, got)
		}
		issuer := isName(a) && isName(b) && isSame(a[:5], b[:5])
		if got := aid.Issuer(a, b); got != issuer {
			t.Errorf("Issuer(%x, %x) = %t", a, b, got)
		}
		begins := len(b) >= 5 && startsWith(a, b)
		if got := aid.Begins(a, b); got != begins {
			t.Errorf("Begins(%x, %x) = %t", a, b, got)
		}
		if got := aid.Ahead(a, b); got != lesser(a, b) {
			t.Errorf("Ahead(%x, %x) = %t", a, b, got)
		}
	})
}

// P3.2: each size of a part of a name, and of a part beyond it.
func TestBeginsSizes(t *testing.T) {
	for n := 0; n <= 20; n++ {
		for m := 0; m <= 20; m++ {
			if got := aid.Begins(made(n), made(m)); got != (m >= 5 && m <= n) {
				t.Errorf("Begins of %d bytes with %d of them: %t", n, m, got)
			}
		}
	}
}

// P3.2: of names of one issuer the bytes behind the fifth are nothing; one other byte of the five is another issuer.
func TestIssuerBytes(t *testing.T) {
	for n := 5; n <= 16; n++ {
		for i := range n {
			b := made(n)
			b[i] ^= 1
			if got := aid.Issuer(made(16), b); got != (i >= 5) {
				t.Errorf("Issuer, byte %d of %d another one: %t", i, n, got)
			}
			if got := aid.Issuer(b, made(5)); got != (i >= 5) {
				t.Errorf("Issuer, byte %d of %d another one, the other way: %t", i, n, got)
			}
		}
	}
}

// P3.2: the chapter's examples, and the edges of a byte.
func TestServesExamples(t *testing.T) {
	for _, c := range []struct {
		has, wants api.Version
		serves     bool
	}{
		{api.Version{Major: 1, Minor: 3}, api.Version{Major: 1, Minor: 2}, true}, {api.Version{Major: 1, Minor: 1}, api.Version{Major: 1, Minor: 2}, false}, {api.Version{Major: 2, Minor: 2}, api.Version{Major: 1, Minor: 2}, false},
		{api.Version{Major: 1, Minor: 2}, api.Version{Major: 1, Minor: 2}, true}, {api.Version{Major: 1, Minor: 2}, api.Version{Major: 2, Minor: 2}, false}, {api.Version{Major: 2, Minor: 3}, api.Version{Major: 1, Minor: 2}, false},
		{api.Version{Major: 1, Minor: 9}, api.Version{Major: 2, Minor: 0}, false}, {api.Version{}, api.Version{}, true}, {api.Version{Minor: 1}, api.Version{}, true}, {api.Version{}, api.Version{Minor: 1}, false},
		{api.Version{Major: 1, Minor: 255}, api.Version{Major: 1}, true}, {api.Version{Major: 1}, api.Version{Major: 1, Minor: 255}, false}, {api.Version{Major: 1, Minor: 128}, api.Version{Major: 1, Minor: 127}, true}, {api.Version{Major: 1, Minor: 127}, api.Version{Major: 1, Minor: 128}, false},
		{api.Version{Major: 255, Minor: 7}, api.Version{Major: 255, Minor: 7}, true}, {api.Version{Major: 255, Minor: 7}, api.Version{Major: 0, Minor: 7}, false},
	} {
		if got := aid.Serves(c.has, c.wants); got != c.serves {
			t.Errorf("Serves(%d, %d) = %t", c.has, c.wants, got)
		}
	}
}

// P3.2: each version of some beside each of them.
func TestServesAsSaid(t *testing.T) {
	versions(func(has api.Version) {
		versions(func(wants api.Version) {
			if got := aid.Serves(has, wants); got != (has.Major == wants.Major && int(has.Minor) >= int(wants.Minor)) {
				t.Errorf("Serves(%d, %d) = %t", has, wants, got)
			}
		})
	})
}

// P3.3: a name of each size that is put is got, with whatever bytes ahead of it and behind it.
func TestPutIsGot(t *testing.T) {
	for n := 5; n <= 16; n++ {
		for _, name := range [][]byte{made(n), make([]byte, n), bytes.Repeat([]byte{255}, n)} {
			row, e := aid.Put(name)
			if e != api.OK {
				t.Fatalf("Put(%x): %v", name, e)
			}
			for _, ahead := range []int{0, 1, 5, 255, 256, 70000} {
				for _, behind := range []int{0, 1, 20} {
					all := append(append(made(ahead), row...), made(behind)...)
					got, next, e := aid.Get(all, ahead)
					if !aid.Same(got, name) || next != ahead+1+n || e != api.OK {
						t.Errorf("Get of %x at %d: %x, %d, %v", name, ahead, got, next, e)
					}
				}
			}
		}
	}
}

// P3.3: names that stand behind one another are got one by one, and behind the last one stands none.
func TestNamesInTurn(t *testing.T) {
	var all []byte
	for n := 5; n <= 16; n++ {
		row, _ := aid.Put(made(n))
		all = append(all, row...)
	}
	at := 0
	for n := 5; n <= 16; n++ {
		name, next, e := aid.Get(all, at)
		if !bytes.Equal(name, made(n)) || e != api.OK {
			t.Fatalf("Get at %d: %x, %v", at, name, e)
		}
		at = next
	}
	if _, _, e := aid.Get(all, at); at != len(all) || e != api.ErrShort {
		t.Errorf("behind the last name: %d of %d, %v", at, len(all), e)
	}
}

// P3.3: of two that are not the same just one is ahead; of the same none.
func TestJustOneAhead(t *testing.T) {
	pairs(func(a, b []byte) {
		n := 0
		for _, yes := range []bool{aid.Ahead(a, b), aid.Ahead(b, a), aid.Same(a, b)} {
			if yes {
				n++
			}
		}
		if n != 1 {
			t.Errorf("of %x and %x hold %d", a, b, n)
		}
	})
}

// P3.3: what serves a version serves each one of the same major and a lesser minor number, and none of another major one.
func TestServesLesser(t *testing.T) {
	versions(func(has api.Version) {
		versions(func(wants api.Version) {
			if !aid.Serves(has, wants) {
				return
			}
			for minor := range wants.Minor {
				if v := (api.Version{Major: wants.Major, Minor: minor}); !aid.Serves(has, v) {
					t.Errorf("%d serves %d, but not %d", has, wants, v)
				}
			}
			for by := uint8(1); by != 0; by++ {
				if v := (api.Version{Major: wants.Major + by, Minor: wants.Minor}); aid.Serves(has, v) {
					t.Errorf("%d serves %d, and %d", has, wants, v)
				}
			}
		})
	})
}

// guarded: b in the midst of other bytes, which stay as they are behind whatever f does.
func guarded(t *testing.T, b []byte, f func(b []byte)) {
	all := append(append([]byte("ahead"), b...), "behind it stands more"...)
	was := bytes.Clone(all)
	f(all[5 : 5+len(b)])
	if !bytes.Equal(all, was) {
		t.Errorf("%x was handed in, behind the call it is %x", was, all)
	}
}

// spoil: all that a list reaches, changed, and more put behind it.
func spoil(b []byte) {
	for i := range b {
		b[i] ^= 255
	}
	for range 8 {
		b = append(b, 170)
	}
	b = b[:cap(b)]
	for i := range b {
		b[i] = 85
	}
}

// What is handed in stays as it is, the bytes about it too, whatever becomes of the answer.
func TestHandedInStays(t *testing.T) {
	for _, b := range rows() {
		guarded(t, b, func(b []byte) {
			_ = aid.May(b)
			row, _ := aid.Put(b)
			spoil(row)
		})
		guarded(t, b, func(a []byte) {
			guarded(t, b, func(b []byte) {
				_, _, _, _ = aid.Same(a, b), aid.Issuer(a, b), aid.Begins(a, b), aid.Ahead(a, b)
			})
		})
		guarded(t, append([]byte{byte(len(b))}, b...), func(b []byte) {
			name, _, _ := aid.Get(b, 0)
			spoil(name)
		})
	}
}

// Two answers share nothing: what becomes of one is not seen in another, nor what becomes of the argument in either.
func TestAnswersApart(t *testing.T) {
	for n := 5; n <= 16; n++ {
		name := made(n)
		row, _ := aid.Put(name)
		again, _ := aid.Put(name)
		spoil(again)
		spoil(name)
		if string(row) != string(byte(n))+string(made(n)) {
			t.Errorf("Put of %d bytes: %x", n, row)
		}
		got, _, _ := aid.Get(row, 0)
		again, _, _ = aid.Get(row, 0)
		spoil(again)
		spoil(row)
		if string(got) != string(made(n)) {
			t.Errorf("Get of %d bytes: %x", n, got)
		}
	}
}

// No bytes are as good as no list.
func TestNoBytes(t *testing.T) {
	for _, b := range [][]byte{nil, {}} {
		if name, next, e := aid.Get(b, 0); len(name) != 0 || next != 0 || e != api.ErrShort {
			t.Errorf("Get = %x, %d, %v", name, next, e)
		}
		for _, a := range [][]byte{nil, {}} {
			if aid.May(a) || !aid.Same(a, b) || aid.Issuer(a, b) || aid.Begins(a, b) || aid.Ahead(a, b) {
				t.Error("of no bytes another thing is told")
			}
		}
	}
}
