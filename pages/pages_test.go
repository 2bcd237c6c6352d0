package pages_test

import (
	"slices"
	"testing"

	"lavabo/api"
	"lavabo/dev"
	"lavabo/forms"
	"lavabo/pages"
)

const most, least = 1<<63 - 1, -1 << 63

func device(t *testing.T, n int) *dev.Device {
	t.Helper()
	d, e := dev.New(n)
	if e != api.OK {
		t.Fatal(int(e))
	}
	return d
}

// entries is so many, of which the first one hangs on from.
func entries(n, from int) (l []forms.Entry) {
	for i := range n {
		l = append(l, forms.Entry{Block: (from + i) % 4096, Slot: (from + 3*i) % 1024, Dirty: i%2 == 0, Sum: from * 77})
	}
	return l
}

func write(t *testing.T, d *dev.Device, base, n, seq int, l ...forms.Entry) {
	t.Helper()
	if e := pages.Write(d, base, n, seq, l...); e != api.OK {
		t.Fatalf("Write: %d", int(e))
	}
}

// reads tells if another checkpoint is read.
func reads(t *testing.T, d *dev.Device, base, n, seq int, l []forms.Entry, want api.Errno) {
	t.Helper()
	s, got, e := pages.Read(d, base, n)
	if s != seq || !slices.Equal(got, l) || e != want {
		t.Errorf("Read: %d %v %d, not %d %v %d", s, got, int(e), seq, l, int(want))
	}
}

// newest tells if another one is the newest.
func newest(t *testing.T, d *dev.Device, base, n, which, seq int, l []forms.Entry, want api.Errno) {
	t.Helper()
	w, s, got, e := pages.Newest(d, base, n)
	if w != which || s != seq || !slices.Equal(got, l) || e != want {
		t.Errorf("Newest: %d %d %v %d, not %d %d %v %d", w, s, got, int(e), which, seq, l, int(want))
	}
}

// P13.1
func TestNeed(t *testing.T) {
	for n, want := range map[int]int{0: 1, 1: 1, 4: 1, 5: 2, 8: 2, 9: 3, 1024: 256, 1025: 257, -1: 0, least: 0, most: most/4 + 1} {
		if got := pages.Need(n); got != want {
			t.Error(n, got)
		}
	}
}

// P13.1
func TestSectors(t *testing.T) {
	for _, c := range []struct {
		base, pages, which int
		want               []int
	}{
		{3, 2, 0, []int{3, 4}}, {3, 2, 1, []int{5, 6}}, {0, 1, 0, []int{0}}, {0, 1, 1, []int{1}}, {4096, 1, 1, []int{4097}},
		{-1, 2, 0, nil}, {3, 0, 0, nil}, {3, -1, 1, nil}, {3, 2, 2, nil}, {3, 2, -1, nil}, {4097, 1, 0, nil}, {0, 4097, 0, nil},
		{most, most, 1, nil}, {0, least, 1, nil}, {least, 1, 0, nil},
	} {
		if got := pages.Sectors(c.base, c.pages, c.which); !slices.Equal(got, c.want) {
			t.Error(c, got)
		}
	}
	if l := pages.Sectors(4096, 4096, 1); len(l) != 4096 || l[0] != 8192 {
		t.Error(len(l))
	}
}

// P13.2
func TestWriteTellsPages(t *testing.T) {
	d := device(t, 10)
	for s := range 10 {
		d.Write(s, api.Block{9})
	}
	l := entries(6, 5)
	write(t, d, 3, 4, 77, l...)
	for i, want := range []forms.Page{
		{Seq: 77, No: 0, Of: 2, Many: 4, Entries: [4]forms.Entry(l[:4])},
		{Seq: 77, No: 1, Of: 2, Many: 2, Entries: [4]forms.Entry{l[4], l[5]}},
	} {
		b, _ := d.Read(3 + i)
		if x, e := forms.GetPage(b); x != want || e != api.OK {
			t.Error(x, int(e))
		}
	}
	for s, want := range [10]byte{9, 9, 9, 3, 3, 0, 0, 9, 9, 9} {
		if b, _ := d.Read(s); b[0] != want {
			t.Error("sector", s, b[0])
		}
	}
	if d.Open() != 14 {
		t.Error("so many are written, and open:", d.Open())
	}
	reads(t, d, 3, 4, 77, l, api.OK)
	write(t, d, 3, 4, 0)
	reads(t, d, 3, 4, 0, nil, api.OK)
}

// wrong is where no checkpoint stands on 10 sectors.
var wrong = [][2]int{{-1, 2}, {0, 0}, {0, -1}, {9, 2}, {10, 1}, {0, 11}, {most, 1}, {1, most}, {most, most}, {least, 2}, {least, least}, {0, least}}

// P13.2, P13.3
func TestRefused(t *testing.T) {
	d := device(t, 10)
	d.Plan(dev.Fails)
	for _, c := range wrong {
		if e := pages.Write(d, c[0], c[1], -1, entries(99, 0)...); e != api.ErrRange {
			t.Error("Write", c, int(e))
		}
		reads(t, d, c[0], c[1], 0, nil, api.ErrRange)
		newest(t, d, c[0], c[1], 0, 0, nil, api.ErrRange)
		reads(t, nil, c[0], c[1], 0, nil, api.ErrNil)
		newest(t, nil, c[0], c[1], 0, 0, nil, api.ErrNil)
		if e := pages.Write(nil, c[0], c[1], 1); e != api.ErrNil {
			t.Error("nil", c, int(e))
		}
	}
	newest(t, d, 5, 3, 0, 0, nil, api.ErrRange) // the second one is not there
	newest(t, d, 0, 6, 0, 0, nil, api.ErrRange)
	for _, c := range []struct {
		pages, seq, n int
		want          api.Errno
	}{
		{1, 1, 5, api.ErrFull}, {2, -1, 9, api.ErrFull}, {2, -1, 1, api.ErrRange}, {2, api.MaxSeq + 1, 0, api.ErrRange},
	} {
		if e := pages.Write(d, 0, c.pages, c.seq, entries(c.n, 0)...); e != c.want {
			t.Error(c, int(e))
		}
	}
	l := entries(6, 0)
	l[5].Slot = 1024
	if e := pages.Write(d, 0, 2, 1, l...); e != api.ErrRange {
		t.Error("an entry that may not be", int(e))
	}
	big := device(t, 4096)
	if e := pages.Write(big, 0, 300, 1, entries(1025, 0)...); e != api.ErrRange {
		t.Error("more pages than there may be", int(e))
	}
	if d.Open() != 0 || d.Planned() != 1 || big.Open() != 0 {
		t.Error("devices were called")
	}
	write(t, big, 0, 300, 1, entries(1024, 0)...)
	reads(t, big, 0, 300, 1, entries(1024, 0), api.OK)
}

// P13.2
func TestErrorsOfWrites(t *testing.T) {
	d := device(t, 10)
	d.Plan(dev.Goes, dev.Fails, dev.Fails)
	if e := pages.Write(d, 0, 3, 1); e != api.ErrWrite || d.Open() != 1 || d.Planned() != 1 {
		t.Error(int(e), d.Open(), d.Planned())
	}
	d = device(t, 10)
	d.Plan(dev.Goes, dev.Goes, dev.Goes, dev.Goes)
	if e := pages.Write(d, 0, 3, 1); e != api.OK || d.Planned() != 1 {
		t.Error("it is flushed", int(e))
	}
	d = device(t, 10)
	d.Plan(dev.Fails, dev.Fails)
	if e := pages.Save(d, 0, 3, 0, 1); e != api.ErrWrite || d.Planned() != 1 {
		t.Error("it is flushed behind an error", int(e))
	}
	d = device(t, 10)
	d.Plan(dev.Goes, dev.Goes, dev.Goes, dev.Fails)
	if e := pages.Save(d, 0, 3, 1, 1); e != api.ErrFlush || d.Open() != 3 {
		t.Error(int(e))
	}
}

// P13.2
func TestSave(t *testing.T) {
	d := device(t, 10)
	for which := range 2 {
		if e := pages.Save(d, 2, 3, which, 5+which, entries(9, which)...); e != api.OK || d.Open() != 0 {
			t.Error(int(e), d.Open())
		}
	}
	reads(t, d, 2, 3, 5, entries(9, 0), api.OK)
	reads(t, d, 5, 3, 6, entries(9, 1), api.OK)
	for _, which := range []int{-1, 2, most, least} {
		if e := pages.Save(d, 2, 3, which, 1); e != api.ErrRange {
			t.Error(which, int(e))
		}
		if e := pages.Save(nil, 2, 3, which, 1); e != api.ErrRange {
			t.Error("ErrRange is told ahead of ErrNil", which, int(e))
		}
	}
	if e := pages.Save(nil, -9, 3, 1, 1); e != api.ErrNil {
		t.Error(int(e))
	}
	for _, c := range [][3]int{{-1, 3, 0}, {8, 3, 0}, {5, 3, 1}, {-4, 3, 1}, {0, 0, 1}, {0, -1, 1}, {most, most, 1}, {least, least, 1}, {most, 1, 1}, {1, most, 1}} {
		if e := pages.Save(d, c[0], c[1], c[2], 1); e != api.ErrRange {
			t.Error(c, int(e))
		}
	}
	if e := pages.Save(d, 0, 3, 0, 1, entries(13, 0)...); e != api.ErrFull {
		t.Error(int(e))
	}
	if e := pages.Save(d, -2, 3, 1, 8, entries(1, 0)...); e != api.OK {
		t.Error("base below 0, but that one is there", int(e))
	}
	reads(t, d, 1, 3, 8, entries(1, 0), api.OK)
}

// P13.3
func TestWhatIsNoCheckpoint(t *testing.T) {
	page := func(x forms.Page) api.Block {
		b, e := forms.PutPage(x)
		if e != api.OK {
			t.Fatal(x, int(e))
		}
		return b
	}
	four := [4]forms.Entry(entries(4, 1))
	full := func(no, of int) forms.Page {
		return forms.Page{Seq: 3, No: no, Of: of, Many: 4, Entries: four}
	}
	some := func(no, of, many int) forms.Page {
		x := forms.Page{Seq: 3, No: no, Of: of, Many: many}
		copy(x.Entries[:], four[:many])
		return x
	}
	other := full(1, 2)
	other.Seq = 4
	torn := page(full(1, 2))
	torn[9]++
	var none api.Block
	for i, c := range []struct {
		b  [3]api.Block
		ok bool
	}{
		{[3]api.Block{page(full(0, 2)), page(full(1, 2))}, true},
		{[3]api.Block{page(full(0, 2)), page(some(1, 2, 1))}, true},
		{[3]api.Block{page(full(0, 3)), page(full(1, 3)), page(some(2, 3, 3))}, true},
		{[3]api.Block{page(some(0, 1, 0))}, true},
		{[3]api.Block{page(some(0, 1, 2))}, true},
		{[3]api.Block{}, false},
		{[3]api.Block{none, page(some(0, 1, 0))}, false},
		{[3]api.Block{page(full(0, 2)), page(some(1, 2, 0))}, false},    // nothing is left for it
		{[3]api.Block{page(some(0, 2, 3)), page(some(1, 2, 1))}, false}, // the first one is not full
		{[3]api.Block{page(full(0, 2)), page(other)}, false},            // another Seq
		{[3]api.Block{page(full(0, 2)), page(full(0, 2))}, false},       // another No
		{[3]api.Block{page(full(0, 2)), page(full(1, 3))}, false},       // another Of
		{[3]api.Block{page(full(1, 2)), page(full(0, 2))}, false},
		{[3]api.Block{page(full(0, 2)), torn}, false},
		{[3]api.Block{page(full(0, 2))}, false},                                        // a page is missing
		{[3]api.Block{page(full(0, 3)), page(full(1, 3))}, false},                      // the last one is
		{[3]api.Block{page(full(0, 4)), page(full(1, 4)), page(full(2, 4))}, false},    // more than there is room for
		{[3]api.Block{page(full(0, 2)), page(full(1, 2)), {63: 1}}, false},             // something behind it
		{[3]api.Block{page(some(0, 1, 1)), none, page(some(0, 1, 1))}, false},          // likewise
		{[3]api.Block{page(full(0, 2)), page(full(1, 2)), page(some(0, 1, 0))}, false}, // likewise
	} {
		d := device(t, 3)
		for s, b := range c.b {
			d.Write(s, b)
		}
		if _, l, e := pages.Read(d, 0, 3); c.ok != (e == api.OK) || !c.ok && (e != api.ErrNone || len(l) != 0) {
			t.Error(i, l, int(e))
		}
	}
}

// P13.3
func TestAllSectorsAreRead(t *testing.T) {
	d := device(t, 10)
	d.Plan(dev.Goes, dev.Goes, dev.Goes, dev.Fails)
	reads(t, d, 0, 3, 0, nil, api.ErrNone) // though the first one tells it
	if d.Planned() != 1 {
		t.Error(d.Planned())
	}
	newest(t, d, 0, 3, 0, 0, nil, api.ErrRead)
	if d.Planned() != 0 {
		t.Error(d.Planned())
	}
	d.Plan(dev.Goes, dev.Fails, dev.Fails)
	reads(t, d, 0, 3, 0, nil, api.ErrRead)
	if d.Planned() != 1 {
		t.Error("it goes on", d.Planned())
	}
	d.Flush()
	write(t, d, 0, 3, 5)
	d.Plan(dev.Goes, dev.Goes, dev.Goes, dev.Goes, dev.Goes, dev.Fails)
	newest(t, d, 0, 3, 0, 0, nil, api.ErrRead)
	newest(t, d, 0, 3, 0, 5, nil, api.OK)
}

// P13.3
func TestNewest(t *testing.T) {
	a, b := entries(3, 0), entries(5, 9)
	for _, c := range []struct{ first, second, which int }{{7, 8, 1}, {8, 7, 0}, {7, 7, 0}, {0, 0, 0}, {0, 1, 1}, {api.MaxSeq, 0, 0}} {
		d := device(t, 10)
		newest(t, d, 1, 4, 0, 0, nil, api.ErrNone)
		write(t, d, 1, 4, c.first, a...)
		newest(t, d, 1, 4, 0, c.first, a, api.OK)
		write(t, d, 5, 4, c.second, b...)
		if c.which == 0 {
			newest(t, d, 1, 4, 0, c.first, a, api.OK)
		} else {
			newest(t, d, 1, 4, 1, c.second, b, api.OK)
		}
		d.Write(1, api.Block{})
		newest(t, d, 1, 4, 1, c.second, b, api.OK)
	}
}

// P13.4
func TestReadOfWrite(t *testing.T) {
	for n := range 30 {
		d := device(t, 12)
		l := entries(n, n)
		was := slices.Clone(l)
		write(t, d, 2, 9, n, l...)
		if !slices.Equal(l, was) {
			t.Error("it was written into")
		}
		reads(t, d, 2, 9, n, l, api.OK)
		_, got, _ := pages.Read(d, 2, 9)
		if n > 0 {
			got[0].Block++
			reads(t, d, 2, 9, n, l, api.OK)
		}
	}
}

// P13.4
func TestCrashWhileOneIsSaved(t *testing.T) {
	old, young := entries(7, 0), entries(10, 3)
	for which := range 2 {
		d := device(t, 8)
		if e := pages.Save(d, 1, 3, 1-which, 4, old...); e != api.OK {
			t.Fatal(int(e))
		}
		pages.Save(d, 1, 3, which, 3, entries(12, 1)...)
		d.Plan(dev.Goes, dev.Goes, dev.Goes, dev.Fails)
		if e := pages.Save(d, 1, 3, which, 6, young...); e != api.ErrFlush {
			t.Fatal(int(e))
		}
		for kept := range 8 {
			c, e := d.Crash(kept&1 > 0, kept&2 > 0, kept&4 > 0)
			if e != api.OK {
				t.Fatal(int(e))
			}
			if kept == 7 {
				newest(t, c, 1, 3, which, 6, young, api.OK)
			} else {
				newest(t, c, 1, 3, 1-which, 4, old, api.OK)
			}
		}
	}
}
