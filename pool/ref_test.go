package pool_test

import (
	"math"
	"testing"

	"garderobe/api"
	"garderobe/pool"
)

// noNumbers: numbers that are below 0, or some too great for anything, some of them small if they were cut to eight, 16 or 32 bits.
func noNumbers() []int {
	return []int{math.MinInt, math.MinInt + 1, -1 << 32, -65536, -32768, -256, -255, -128, -127, -1, 32768, 32769, 65535, 65536, 65537, 98304, 1 << 31, 1 << 32, 1<<32 + 1, math.MaxInt - 1, math.MaxInt}
}

// unref: Ref refuses, with nothing beside the error.
func unref(t *testing.T, imported bool, n, token int) {
	t.Helper()
	if ref, e := pool.Ref(imported, n, token); ref != 0 || e != api.ErrArg {
		t.Errorf("Ref(%t, %d, %d) = %d, %v", imported, n, token, ref, e)
	}
}

// isRef: the reference is made of these, and is these.
func isRef(t *testing.T, ref uint16, imported bool, n, token int) {
	t.Helper()
	if r, e := pool.Ref(imported, n, token); r != ref || e != api.OK {
		t.Errorf("Ref(%t, %d, %d) = %d, %v; not %d", imported, n, token, r, e, ref)
	}
	if i, m, k := pool.Split(ref); i != imported || m != n || k != token {
		t.Errorf("Split(%d) = %t, %d, %d; not %t, %d, %d", ref, i, m, k, imported, n, token)
	}
}

// P7.2: written out by hand, the chapter's examples among them.
func TestRefExamples(t *testing.T) {
	for _, c := range []struct {
		ref      uint16
		imported bool
		n, token int
	}{
		{3, false, 3, 0}, {33282, true, 2, 2},
		{0, false, 0, 0}, {1, false, 1, 0}, {127, false, 127, 0}, {128, false, 128, 0}, {255, false, 255, 0}, {256, false, 256, 0}, {258, false, 258, 0}, {32766, false, 32766, 0}, {32767, false, 32767, 0},
		{32768, true, 0, 0}, {32769, true, 0, 1}, {33023, true, 0, 255}, {33024, true, 1, 0}, {33279, true, 1, 255}, {33280, true, 2, 0}, {65279, true, 126, 255}, {65280, true, 127, 0}, {65534, true, 127, 254}, {65535, true, 127, 255},
	} {
		isRef(t, c.ref, c.imported, c.n, c.token)
	}
	unref(t, false, 32768, 0)
}

// P7.2: each reference, of this package's and of each import's; in this order they are all there are, one behind the other.
func TestRefAll(t *testing.T) {
	ref := 0
	for n := range 32768 {
		isRef(t, uint16(ref), false, n, 0)
		ref++
	}
	for n := range 128 {
		for token := range 256 {
			isRef(t, uint16(ref), true, n, token)
			ref++
		}
	}
	if ref != 65536 {
		t.Errorf("%d references", ref)
	}
}

// P7.2: numbers below 0 and too great, and a token with a class of this package's.
func TestRefWrong(t *testing.T) {
	for _, bad := range noNumbers() {
		for _, token := range append(noNumbers(), 0, 1, 127, 128, 255, 256) {
			unref(t, false, bad, token)
			unref(t, true, bad, token)
		}
		for _, n := range []int{0, 1, 127, 128, 255, 256, 32767} {
			unref(t, false, n, bad)
			unref(t, true, n, bad)
		}
	}
	for n := range 32768 {
		unref(t, false, n, 1+n%255)
		unref(t, false, n, -1-n%255)
		unref(t, true, 128+n, n%256)
		unref(t, true, n%128, 256+n)
	}
	for _, n := range []int{0, 1, 255, 32767} {
		for token := 1; token <= 300; token++ {
			unref(t, false, n, token)
		}
	}
	for n := range 128 {
		unref(t, true, n, 256)
		unref(t, true, n, -1)
	}
}
