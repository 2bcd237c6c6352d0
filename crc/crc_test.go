package crc_test

import (
	"testing"

	"lavabo/api"
	"lavabo/crc"
)

// bits is a sum, stepped bit by bit as the words tell it.
func bits(sum uint32, l ...byte) uint32 {
	for _, b := range l {
		for i := range 8 {
			sum ^= uint32(b>>i) & 1
			odd := sum&1 == 1
			sum /= 2
			if odd {
				sum ^= 2197175160
			}
		}
	}
	return sum
}

func plain(l ...byte) int { return int(bits(1<<32-1, l...) ^ (1<<32 - 1)) }

// row is some bytes that hang on a number.
func row(n, from int) []byte {
	l := make([]byte, n)
	for i := range l {
		from = from*1103515245 + 12345
		l[i] = byte(from >> 16)
	}
	return l
}

// P1.1
func TestSumIsStepped(t *testing.T) {
	for b := range 256 {
		if n, want := crc.Sum([]byte{byte(b)}), plain(byte(b)); n != want {
			t.Errorf("byte %d: %d, not %d", b, n, want)
		}
	}
	for n := range 100 {
		l := row(n, n)
		if got, want := crc.Sum(l), plain(l...); got != want {
			t.Errorf("%d bytes: %d, not %d", n, got, want)
		}
	}
	if n := crc.Sum([]byte("123456789")); n != 3808858755 {
		t.Error("the example", n)
	}
}

// P1.1
func TestSumOfRowsIsThatOfAllTheirBytes(t *testing.T) {
	if crc.Sum() != 0 || crc.Sum(nil) != 0 || crc.Sum(nil, []byte{}, nil) != 0 {
		t.Error("no bytes have another sum than 0")
	}
	l := row(40, 3)
	for i := range l {
		for j := i; j < len(l); j++ {
			if crc.Sum(l[:i], nil, l[i:j], l[j:]) != plain(l...) {
				t.Errorf("parted at %d and %d", i, j)
			}
		}
	}
	same := row(40, 3)
	for i := range l {
		if l[i] != same[i] {
			t.Fatal("a row was written into")
		}
	}
}

// P1.1
func TestNoughts(t *testing.T) {
	for _, n := range []int{0, 1, 2, 3, 4, 31, 32, 33, 60, 64, 1000, 1<<20 - 1, 1 << 20} {
		got, e := crc.Noughts(n)
		if e != api.OK || got != crc.Sum(make([]byte, n)) {
			t.Errorf("%d: %d, %d", n, got, int(e))
		}
	}
	for _, n := range []int{-1, 1<<20 + 1, -1 << 63, 1<<63 - 1} {
		if got, e := crc.Noughts(n); got != 0 || e != api.ErrArg {
			t.Errorf("%d: %d, %d", n, got, int(e))
		}
	}
	if n, _ := crc.Noughts(32); n != 2324772522 {
		t.Error("the example", n)
	}
}

// P1.2
func TestJoinSteps(t *testing.T) {
	sums := []int{0, 1, 2, 0x80000000, 2197175160, 123456789, 1<<32 - 1}
	for _, first := range sums {
		for _, second := range sums {
			for _, n := range []int{0, 1, 2, 3, 7, 64} {
				got, e := crc.Join(first, second, n)
				want := int(bits(uint32(first), make([]byte, n)...)) ^ second
				if e != api.OK || got != want {
					t.Errorf("%d %d %d: %d, not %d", first, second, n, got, want)
				}
			}
		}
	}
	got, e := crc.Join(5, 9, 1<<20)
	if e != api.OK || got != int(bits(5, make([]byte, 1<<20)...))^9 {
		t.Error("the most bytes", got, int(e))
	}
}

// P1.2
func TestJoinRefuses(t *testing.T) {
	const big = 1 << 32
	for _, c := range [][3]int{
		{-1, 0, 0}, {big, 0, 0}, {0, -1, 0}, {0, big, 0}, {0, 0, -1}, {0, 0, 1<<20 + 1},
		{-1 << 63, 0, 0}, {1<<63 - 1, 0, 0}, {0, 1<<63 - 1, 0}, {0, 0, -1 << 63}, {0, 0, 1<<63 - 1}, {-1, -1, -1},
	} {
		if n, e := crc.Join(c[0], c[1], c[2]); n != 0 || e != api.ErrArg {
			t.Errorf("%v: %d, %d", c, n, int(e))
		}
	}
	if _, e := crc.Join(big-1, big-1, 1<<20); e != api.OK {
		t.Error("the greatest of all", int(e))
	}
}

// P1.3
func TestSumsOfRowsGoTogether(t *testing.T) {
	for n := range 70 {
		a, b := row(n, 1), row(70-n, 2)
		if got, e := crc.Join(crc.Sum(a), crc.Sum(b), len(b)); e != api.OK || got != crc.Sum(a, b) {
			t.Errorf("%d and %d bytes do not join", len(a), len(b))
		}
		x, y, z, all := row(n, 3), row(n, 4), row(n, 5), make([]byte, n)
		for i := range all {
			all[i] = x[i] ^ y[i] ^ z[i]
		}
		if crc.Sum(all) != crc.Sum(x)^crc.Sum(y)^crc.Sum(z) {
			t.Errorf("the xor of three rows of %d bytes", n)
		}
	}
	l := row(64, 9)
	sum := crc.Sum(l)
	for i := range l {
		was := l[i]
		for b := range 256 {
			l[i] = byte(b)
			if (crc.Sum(l) == sum) != (byte(b) == was) {
				t.Errorf("byte %d as %d", i, b)
			}
		}
		l[i] = was
	}
}
