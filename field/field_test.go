package field_test

import (
	"testing"

	"lavabo/api"
	"lavabo/crc"
	"lavabo/field"
)

const most = 1<<56 - 1 // of seven bytes

// sector is bytes, then noughts, and the sum.
func sector(l ...byte) api.Block {
	var b api.Block
	copy(b[:60], l)
	sum := crc.Sum(b[:60])
	for i := range 4 {
		b[60+i] = byte(sum >> (8 * i))
	}
	return b
}

// full is a writer of which so many bytes are written.
func full(n int) *field.Writer {
	w := field.Write()
	for range n {
		w.Put(1, 1)
	}
	return w
}

// P4.1
func TestPutLowestByteFirst(t *testing.T) {
	b, e := field.Write().Put(258, 2).Put(7, 1).Seal()
	if e != api.OK || b != sector(2, 1, 7) {
		t.Error("the example", b, int(e))
	}
	b, e = field.Write().Put(0x01020304050607, 7).Put(255, 1).Put(0, 3).Put(0xfffe, 2).Seal()
	if e != api.OK || b != sector(7, 6, 5, 4, 3, 2, 1, 255, 0, 0, 0, 0xfe, 0xff) {
		t.Error("some numbers", b, int(e))
	}
	if b, e = field.Write().Seal(); e != api.OK || b != sector() {
		t.Error("no number", b, int(e))
	}
}

// P4.1
func TestPutAnswersTheWriter(t *testing.T) {
	w := field.Write()
	if w.Put(1, 1) != w || w.Put(1, 9) != w || w.Put(1, 1) != w {
		t.Error("another writer")
	}
}

// P4.1
func TestPutRefuses(t *testing.T) {
	for _, c := range []struct {
		n, size int
		e       api.Errno
	}{
		{0, 0, api.ErrArg}, {0, 8, api.ErrArg}, {0, -1, api.ErrArg}, {-1, 0, api.ErrArg}, {0, 1<<63 - 1, api.ErrArg}, {0, -1 << 63, api.ErrArg},
		{-1, 1, api.ErrOver}, {256, 1, api.ErrOver}, {65536, 2, api.ErrOver}, {most + 1, 7, api.ErrOver}, {1<<63 - 1, 7, api.ErrOver}, {-1 << 63, 7, api.ErrOver},
		{255, 1, api.OK}, {65535, 2, api.OK}, {1<<24 - 1, 3, api.OK}, {most, 7, api.OK}, {0, 7, api.OK},
	} {
		b, e := field.Write().Put(c.n, c.size).Seal()
		if e != c.e || (e != api.OK) != (b == api.Block{}) {
			t.Errorf("%d in %d bytes: %d", c.n, c.size, int(e))
		}
	}
}

// P4.1
func TestPutIntoWhatIsLeft(t *testing.T) {
	for size := 1; size <= 7; size++ {
		if _, e := full(60-size).Put(1, size).Seal(); e != api.OK {
			t.Error("the last bytes", size, int(e))
		}
		if b, e := full(61-size).Put(1, size).Seal(); e != api.ErrFull || b != (api.Block{}) {
			t.Error("a byte too many", size, int(e))
		}
	}
	if _, e := full(60).Put(256, 1).Seal(); e != api.ErrOver {
		t.Error("ErrOver is told ahead of ErrFull", int(e))
	}
	if _, e := full(60).Put(0, 8).Seal(); e != api.ErrArg {
		t.Error("ErrArg is told ahead of ErrFull", int(e))
	}
}

// P4.1
func TestTheFirstErrorStays(t *testing.T) {
	w := field.Write().Put(1, 1).Put(300, 1).Put(1, 0).Put(2, 1)
	if _, e := w.Seal(); e != api.ErrOver {
		t.Error(int(e))
	}
	if _, e := w.Put(5, 1).Seal(); e != api.ErrOver {
		t.Error(int(e))
	}
}

// P4.1
func TestSealLeavesTheWriter(t *testing.T) {
	w := field.Write().Put(9, 1)
	w.Seal()
	if b, e := w.Put(8, 1).Seal(); e != api.OK || b != sector(9, 8) {
		t.Error(b, int(e))
	}
}

// P4.2
func TestTake(t *testing.T) {
	r := field.Read(sector(2, 1, 7, 0, 0, 0, 0, 0, 0, 255))
	if r.Take(2) != 258 || r.Take(1) != 7 || r.Take(7) != 255<<48 || r.End() != api.OK {
		t.Error("what is taken")
	}
	var b api.Block
	for i := range b {
		b[i] = 255
	}
	r = field.Read(b)
	for range 8 {
		if n := r.Take(7); n != most {
			t.Error(n)
		}
	}
	if r.End() != api.ErrForm || r.Take(4) != 1<<32-1 || r.End() != api.OK {
		t.Error("what is left is not nought, then nothing is left")
	}
	if r.Take(1) != 0 || r.End() != api.ErrFull {
		t.Error("the sum is not taken")
	}
}

// P4.2
func TestTakeRefuses(t *testing.T) {
	for _, size := range []int{0, 8, -1, 1<<63 - 1, -1 << 63} {
		r := field.Read(sector(5, 6))
		if r.Take(size) != 0 || r.End() != api.ErrArg || r.Take(1) != 0 || r.End() != api.ErrArg {
			t.Error(size)
		}
	}
	for size := 1; size <= 7; size++ {
		r := field.Read(sector())
		for range 61 - size {
			r.Take(1)
		}
		if r.Take(size) != 0 || r.End() != api.ErrFull || r.Take(0) != 0 || r.End() != api.ErrFull {
			t.Error(size)
		}
	}
}

// P4.2
func TestEndLooksAtWhatWasNotTaken(t *testing.T) {
	for i := range 64 {
		var b api.Block
		b[i] = 1
		want := api.OK
		if i < 60 {
			want = api.ErrForm
		}
		if e := field.Read(b).End(); e != want {
			t.Error(i, int(e))
		}
		r := field.Read(b)
		for range min(i, 59) + 1 {
			r.Take(1)
		}
		if e := r.End(); e != api.OK {
			t.Error(i, "taken", int(e))
		}
	}
	r := field.Read(sector(1, 2))
	if r.End() != api.ErrForm || r.Take(1) != 1 || r.End() != api.ErrForm || r.Take(1) != 2 || r.End() != api.OK {
		t.Error("a Take behind ErrForm goes on")
	}
}

// P4.1, P4.2
func TestNil(t *testing.T) {
	var w *field.Writer
	var r *field.Reader
	b, e := w.Seal()
	if w.Put(1, 1) != nil || b != (api.Block{}) || e != api.ErrNil {
		t.Error("a nil writer")
	}
	if r.Take(1) != 0 || r.End() != api.ErrNil {
		t.Error("a nil reader")
	}
}

// P4.2, P4.3
func TestSealed(t *testing.T) {
	if field.Sealed(api.Block{}) != api.ErrSum {
		t.Error("noughts are not sealed")
	}
	b := sector(3, 1, 4, 1, 5)
	if e := field.Sealed(b); e != api.OK {
		t.Error(int(e))
	}
	for i := range b {
		for x := 1; x < 256; x++ {
			other := b
			other[i] ^= byte(x)
			if field.Sealed(other) != api.ErrSum {
				t.Error(i, x)
			}
		}
	}
}

// P4.3
func TestWhatIsPutIsTaken(t *testing.T) {
	n := 11
	for range 300 {
		var l [][2]int
		w := field.Write()
		for left := 60; ; {
			n = (n*1103515245 + 12345) & (1<<31 - 1)
			size := 1 + n>>8%7
			if left -= size; left < 0 {
				break
			}
			x := (n * n) & (1<<(8*size) - 1)
			l = append(l, [2]int{x, size})
			w.Put(x, size)
		}
		b, e := w.Seal()
		if e != api.OK || field.Sealed(b) != api.OK {
			t.Fatal(int(e))
		}
		r, again := field.Read(b), field.Write()
		for _, x := range l {
			got := r.Take(x[1])
			if got != x[0] {
				t.Fatal(got, x)
			}
			again.Put(got, x[1])
		}
		if c, _ := again.Seal(); r.End() != api.OK || c != b {
			t.Fatal("another sector")
		}
	}
}
