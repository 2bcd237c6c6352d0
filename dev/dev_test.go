package dev_test

import (
	"testing"

	"lavabo/api"
	"lavabo/dev"
)

func device(t *testing.T, sectors int) *dev.Device {
	t.Helper()
	d, e := dev.New(sectors)
	if d == nil || e != api.OK {
		t.Fatal("no device", int(e))
	}
	return d
}

func write(t *testing.T, d *dev.Device, sector int, x byte) {
	t.Helper()
	if e := d.Write(sector, api.Block{x}); e != api.OK {
		t.Fatal("Write", sector, int(e))
	}
}

// reads tells if a sector does not read, or is not firm, so.
func reads(t *testing.T, d *dev.Device, sector int, x, firm byte) {
	t.Helper()
	if b, e := d.Read(sector); b != (api.Block{x}) || e != api.OK {
		t.Errorf("sector %d reads %d, not %d; %d", sector, b[0], x, int(e))
	}
	if b, e := d.Firm(sector); b != (api.Block{firm}) || e != api.OK {
		t.Errorf("sector %d is firm as %d, not %d; %d", sector, b[0], firm, int(e))
	}
}

var outside = []int{-1, 4, -1 << 63, 1<<63 - 1}

// P5.1
func TestNew(t *testing.T) {
	for _, n := range []int{1, 2, 4095, 4096} {
		d := device(t, n)
		if d.Size() != n || d.Planned() != 0 || d.Open() != 0 {
			t.Error(n, d.Size())
		}
		reads(t, d, 0, 0, 0)
		reads(t, d, n-1, 0, 0)
	}
	for _, n := range []int{0, -1, 4097, -1 << 63, 1<<63 - 1} {
		if d, e := dev.New(n); d != nil || e != api.ErrSize {
			t.Error(n, int(e))
		}
	}
}

// P5.1
func TestPlan(t *testing.T) {
	d := device(t, 4)
	if e := d.Plan(dev.Goes, dev.Drops); e != api.OK || d.Planned() != 2 {
		t.Error(int(e), d.Planned())
	}
	for _, f := range []int{-1, 3, -1 << 63, 1<<63 - 1} {
		if e := d.Plan(dev.Fails, f, dev.Goes); e != api.ErrArg || d.Planned() != 2 {
			t.Error(f, int(e), d.Planned())
		}
	}
	fates := []int{dev.Fails, dev.Fails}
	if e := d.Plan(fates...); e != api.OK || d.Planned() != 4 {
		t.Error(int(e), d.Planned())
	}
	fates[0], fates[1] = dev.Goes, dev.Goes
	if e := d.Plan(); e != api.OK || d.Planned() != 4 {
		t.Error(int(e), d.Planned())
	}
	for i, want := range []api.Errno{api.OK, api.OK, api.ErrWrite, api.ErrWrite, api.OK} {
		if e := d.Write(0, api.Block{byte(i)}); e != want || d.Planned() != max(0, 3-i) {
			t.Error(i, int(e), d.Planned())
		}
	}
	if dev.Goes != 0 || dev.Fails != 1 || dev.Drops != 2 {
		t.Error("fates are numbered otherwise")
	}
}

// P5.2
func TestReadAndWrite(t *testing.T) {
	d := device(t, 4)
	write(t, d, 1, 5)
	reads(t, d, 1, 5, 0)
	write(t, d, 3, 6)
	write(t, d, 1, 7)
	reads(t, d, 1, 7, 0)
	reads(t, d, 3, 6, 0)
	reads(t, d, 0, 0, 0)
	if d.Open() != 3 {
		t.Error(d.Open())
	}
	if e := d.Flush(); e != api.OK || d.Open() != 0 {
		t.Error(int(e), d.Open())
	}
	reads(t, d, 1, 7, 7)
	reads(t, d, 3, 6, 6)
	reads(t, d, 2, 0, 0)
}

// P5.2
func TestSectorsThatAreNotThereTakeNoFate(t *testing.T) {
	d := device(t, 4)
	d.Plan(dev.Fails, dev.Drops)
	for _, n := range outside {
		if b, e := d.Read(n); b != (api.Block{}) || e != api.ErrRange {
			t.Error("Read", n, int(e))
		}
		if e := d.Write(n, api.Block{1}); e != api.ErrRange {
			t.Error("Write", n, int(e))
		}
		if b, e := d.Firm(n); b != (api.Block{}) || e != api.ErrRange {
			t.Error("Firm", n, int(e))
		}
	}
	if d.Planned() != 2 || d.Open() != 0 {
		t.Error(d.Planned(), d.Open())
	}
}

// P5.2
func TestFails(t *testing.T) {
	d := device(t, 4)
	write(t, d, 2, 8)
	d.Plan(dev.Fails, dev.Fails, dev.Fails)
	if b, e := d.Read(2); b != (api.Block{}) || e != api.ErrRead {
		t.Error("Read", int(e))
	}
	if e := d.Write(2, api.Block{9}); e != api.ErrWrite {
		t.Error("Write", int(e))
	}
	if e := d.Flush(); e != api.ErrFlush || d.Open() != 1 || d.Planned() != 0 {
		t.Error("Flush", int(e), d.Open())
	}
	reads(t, d, 2, 8, 0)
}

// P5.2
func TestDrops(t *testing.T) {
	d := device(t, 4)
	write(t, d, 2, 8)
	d.Plan(dev.Drops, dev.Drops, dev.Drops)
	if b, e := d.Read(2); b != (api.Block{8}) || e != api.OK {
		t.Error("Read", int(e))
	}
	if e := d.Write(2, api.Block{9}); e != api.OK {
		t.Error("Write", int(e))
	}
	if e := d.Flush(); e != api.OK || d.Open() != 1 || d.Planned() != 0 {
		t.Error("Flush", int(e), d.Open())
	}
	reads(t, d, 2, 8, 0)
}

// P5.2, P5.3
func TestFirmTakesNoFate(t *testing.T) {
	d := device(t, 4)
	d.Plan(dev.Fails)
	if _, e := d.Firm(1); e != api.OK || d.Planned() != 1 {
		t.Error(int(e))
	}
	if d.Size() != 4 || d.Open() != 0 || d.Copy().Planned() != 1 || d.Planned() != 1 {
		t.Error("others do not either")
	}
}

// P5.3
func TestCrash(t *testing.T) {
	d := device(t, 4)
	write(t, d, 0, 1)
	d.Flush()
	for i, sector := range []int{1, 2, 1, 0} {
		write(t, d, sector, byte(10+i))
	}
	d.Plan(dev.Fails)
	for kept := range 16 {
		for n := range 5 {
			keep := make([]bool, n)
			want := [4]byte{1}
			for i := range keep {
				keep[i] = kept>>i&1 == 1
				if keep[i] {
					want[[]int{1, 2, 1, 0}[i]] = byte(10 + i)
				}
			}
			c, e := d.Crash(keep...)
			if e != api.OK || c.Open() != 0 || c.Planned() != 0 || c.Size() != 4 {
				t.Fatal(keep, int(e))
			}
			for s, x := range want {
				reads(t, c, s, x, x)
			}
		}
	}
	if c, e := d.Crash(true, true, true, true, false); c != nil || e != api.ErrArg {
		t.Error("more than there are open", int(e))
	}
	if d.Open() != 4 || d.Planned() != 1 {
		t.Error("the crash was of the device itself")
	}
	c, _ := d.Crash()
	write(t, c, 3, 77)
	c.Flush()
	if b, _ := d.Firm(3); b != (api.Block{}) {
		t.Error("what is behind the crash is not of its own")
	}
}

// P5.3
func TestExample(t *testing.T) {
	d := device(t, 2)
	write(t, d, 1, 3)
	reads(t, d, 1, 3, 0)
	c, _ := d.Crash(true)
	reads(t, c, 1, 3, 3)
	c, _ = d.Crash()
	reads(t, c, 1, 0, 0)
}

// P5.3
func TestCopyIsOfItsOwn(t *testing.T) {
	d := device(t, 4)
	write(t, d, 0, 1)
	d.Flush()
	write(t, d, 1, 2)
	d.Plan(dev.Goes, dev.Fails)
	for i, turn := range []func(x *dev.Device){
		func(x *dev.Device) { x.Write(3, api.Block{9}) },
		func(x *dev.Device) { x.Flush() },
		func(x *dev.Device) { x.Read(0) },
		func(x *dev.Device) { x.Plan(dev.Drops) },
	} {
		c, was := d.Copy(), d.Copy()
		if !dev.Same(c, d) {
			t.Error(i, "a copy is not the same")
		}
		turn(c)
		if dev.Same(c, d) || dev.Same(d, c) || !dev.Same(d, was) {
			t.Error(i, "a copy is not of its own")
		}
		e := was.Copy()
		turn(was)
		if dev.Same(e, was) {
			t.Error(i, "a copy hangs on what it was made of")
		}
	}
}

// P5.3
func TestSame(t *testing.T) {
	made := func(steps ...func(x *dev.Device)) *dev.Device {
		d := device(t, 3)
		for _, s := range steps {
			s(d)
		}
		return d
	}
	put := func(sector int, x byte) func(*dev.Device) {
		return func(d *dev.Device) { d.Write(sector, api.Block{63: x}) }
	}
	flush := func(d *dev.Device) { d.Flush() }
	plan := func(f int) func(*dev.Device) { return func(d *dev.Device) { d.Plan(f) } }
	all := []*dev.Device{
		nil, device(t, 2), made(), made(put(1, 1)), made(put(1, 2)), made(put(2, 1)), made(put(1, 1), flush), made(put(1, 2), flush),
		made(put(1, 1), put(2, 1)), made(put(2, 1), put(1, 1)), made(plan(0)), made(plan(1)), made(plan(1), plan(0)), made(put(1, 1), put(1, 1)),
	}
	for i, a := range all {
		for j, b := range all {
			if dev.Same(a, b.Copy()) != (i == j) {
				t.Error(i, j)
			}
		}
	}
	if !dev.Same(made(put(1, 1), put(2, 2), flush), made(put(2, 2), put(1, 1), flush)) {
		t.Error("what is firm has no order")
	}
}

// P5.1, P5.2, P5.3
func TestNil(t *testing.T) {
	var d *dev.Device
	b, e := d.Read(0)
	c, f := d.Firm(0)
	x, g := d.Crash()
	if e != api.ErrNil || b != (api.Block{}) || f != api.ErrNil || c != (api.Block{}) || g != api.ErrNil || x != nil {
		t.Error("answers of nil")
	}
	if d.Plan(dev.Goes) != api.ErrNil || d.Plan(9) != api.ErrNil || d.Write(-1, b) != api.ErrNil || d.Flush() != api.ErrNil {
		t.Error("errors of nil")
	}
	if d.Size() != 0 || d.Planned() != 0 || d.Open() != 0 || d.Copy() != nil {
		t.Error("numbers of nil")
	}
}

// P5.4
func TestAgainstArrays(t *testing.T) {
	n := 3
	next := func(most int) int {
		n = (n*1103515245 + 12345) & (1<<31 - 1)
		return n >> 8 % most
	}
	d := device(t, 4)
	var now, firm [4]byte
	var each [4][]byte // what open writes have
	for range 3000 {
		s, x := next(4), byte(next(256))
		fate := next(4) % 3
		d.Plan(fate)
		switch next(6) {
		case 0:
			if e := d.Flush(); fate == dev.Goes && e == api.OK {
				firm, each = now, [4][]byte{}
			}
		case 1:
			b, e := d.Read(s)
			if fate != dev.Fails && (b[0] != now[s] || e != api.OK) {
				t.Fatal("Read", s, b[0], now[s])
			}
		default:
			if e := d.Write(s, api.Block{x}); fate == dev.Goes && e == api.OK {
				now[s] = x
				each[s] = append(each[s], x)
			}
		}
		keep := make([]bool, next(d.Open()+1))
		for i := range keep {
			keep[i] = next(2) == 0
		}
		c, e := d.Crash(keep...)
		if e != api.OK {
			t.Fatal(int(e))
		}
		for s := range 4 {
			b, _ := c.Read(s)
			ok := b[0] == firm[s]
			for _, x := range each[s] {
				ok = ok || b[0] == x
			}
			if !ok {
				t.Fatal("a sector that never was so", s, b[0])
			}
		}
	}
}
