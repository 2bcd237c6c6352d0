package script_test

import (
	"slices"
	"testing"

	"lavabo/api"
	"lavabo/cache"
	"lavabo/dev"
	"lavabo/forms"
	"lavabo/purge"
	"lavabo/script"
	"lavabo/writeback"
)

const most, least = 1<<63 - 1, -1 << 63

// config is one of 12 blocks and 4 slots; the cache's device has 24 sectors.
func config() script.Config {
	return script.Config{
		Super:  forms.Super{ID: 3, Blocks: 12, Slots: 4, Journal: 8, Pages: 1, Logs: 3, Batch: 2},
		Policy: writeback.Policy{High: 2, Low: 1, Batch: 2},
	}
}

func made(t *testing.T) *script.Run {
	t.Helper()
	r, e := script.New(config())
	if r == nil || e != api.OK {
		t.Fatal("no run", int(e))
	}
	return r
}

// is tells if an answer is another one.
func is(t *testing.T, a script.Answer, code api.Errno, n int, data ...api.Block) {
	t.Helper()
	if a.Code != code || a.N != n || !slices.Equal(a.Data, data) {
		t.Errorf("%d %d %v, not %d %d %v", int(a.Code), a.N, a.Data, int(code), n, data)
	}
}

func op(do, from, n, fill int) script.Op { return script.Op{Do: do, From: from, N: n, Fill: fill} }

var nought api.Block

// P21.1
func TestNewRefuses(t *testing.T) {
	for i, c := range []struct {
		turn func(c *script.Config)
		want api.Errno
	}{
		{func(c *script.Config) { c.Super.Journal, c.Super.ID, c.Policy.Batch = 3, -1, 0 }, api.ErrSize},
		{func(c *script.Config) { c.Super.ID, c.Policy.Batch = -1, 0 }, api.ErrRange},
		{func(c *script.Config) { c.Policy.Batch = 0 }, api.ErrArg},
		{func(c *script.Config) { c.Policy.High = 5 }, api.ErrArg},
		{func(c *script.Config) { *c = script.Config{} }, api.ErrSize},
	} {
		x := config()
		c.turn(&x)
		if r, e := script.New(x); r != nil || e != c.want {
			t.Error(i, int(e))
		}
	}
}

// P21.1
func TestNew(t *testing.T) {
	r := made(t)
	ssd, back := r.Devices()
	if ssd.Size() != 24 || back.Size() != 12 || r.Volume().Blocks() != 12 || ssd.Open() != 0 {
		t.Error(ssd.Size(), back.Size())
	}
	b, _ := ssd.Firm(0)
	if s, e := forms.GetSuper(b); s != config().Super || e != api.OK {
		t.Error(s, int(e))
	}
	if s := r.Volume().Stats(); s.Free != 4 {
		t.Error(s)
	}
}

// P21.1, P21.2
func TestNil(t *testing.T) {
	var r *script.Run
	for do := -1; do < 14; do++ {
		is(t, r.Do(op(do, 0, 1, 0)), api.ErrNil, 0)
	}
	ssd, back := r.Devices()
	if ssd != nil || back != nil || r.Volume() != nil {
		t.Error("answers of nil")
	}
}

// P21.1
func TestFill(t *testing.T) {
	for _, c := range [][2]int{{0, 1}, {2, 5}, {4095, 255}, {3, -1}, {-7, 9}, {most, most}, {least, 1}, {5, 256}} {
		b := script.Fill(c[0], c[1])
		for i, x := range b {
			// what is below 0, or no int, comes to the same modulo 256
			want := (31*(c[0]&255) + 7*(c[1]&255) + i) & 255
			if int(x) != want {
				t.Fatal(c, i, x, want)
			}
		}
	}
	if script.Fill(9, 0) != nought || script.Fill(0, 0) != nought {
		t.Error("fill 0")
	}
	if b := script.Fill(2, 5); b[0] != 97 || b[63] != 160 {
		t.Error(b)
	}
}

// P21.2
func TestOpsAreNumbered(t *testing.T) {
	for i, do := range []int{script.Read, script.Write, script.Firm, script.Discard, script.Flush, script.Purge, script.Poll, script.Tick, script.Certs, script.Mode, script.Detach, script.Plan, script.Crash} {
		if do != i {
			t.Error(i, do)
		}
	}
}

// P21.2
func TestExample(t *testing.T) {
	for _, do := range []int{script.Write, script.Firm} {
		r := made(t)
		is(t, r.Do(op(do, 2, 1, 5)), api.OK, 0)
		is(t, r.Do(op(script.Read, 2, 1, 0)), api.OK, 0, script.Fill(2, 5))
		is(t, r.Do(op(script.Crash, 0, 0, 0)), api.OK, 0)
		want := nought
		if do == script.Firm {
			want = script.Fill(2, 5)
		}
		is(t, r.Do(op(script.Read, 2, 1, 0)), api.OK, 0, want)
	}
}

// P21.2
func TestWrongOps(t *testing.T) {
	r := made(t)
	for _, do := range []int{-1, 13, most, least} {
		is(t, r.Do(op(do, 0, 1, 1)), api.ErrArg, 0)
	}
	for _, do := range []int{script.Write, script.Firm} {
		for _, n := range []int{0, -1, 65, most, least} {
			is(t, r.Do(op(do, 0, n, 1)), api.ErrArg, 0)
			is(t, r.Do(op(do, 99, n, 1)), api.ErrArg, 0)
		}
		is(t, r.Do(op(do, 0, 13, 1)), api.ErrRange, 0)
		is(t, r.Do(op(do, 0, 64, 1)), api.ErrRange, 0)
		is(t, r.Do(op(do, -1, 2, 1)), api.ErrRange, 0)
		is(t, r.Do(op(do, most, 2, 1)), api.ErrRange, 0)
	}
	for _, do := range []int{script.Read, script.Discard, script.Purge} {
		for _, s := range [][2]int{{0, 0}, {0, 13}, {12, 1}, {-1, 1}, {3, -1}, {most, most}, {least, 1}} {
			is(t, r.Do(op(do, s[0], s[1], 1)), api.ErrRange, 0)
		}
	}
	is(t, r.Do(op(script.Mode, 3, 0, 0)), api.ErrArg, 0)
	is(t, r.Do(op(script.Poll, 0, 0, 0)), api.ErrNone, 0)
	is(t, r.Do(op(script.Read, 0, 12, 0)), api.OK, 0, make([]api.Block, 12)...)
}

// P21.2
func TestCommands(t *testing.T) {
	r := made(t)
	_, back := r.Devices()
	is(t, r.Do(op(script.Mode, cache.Bypass, 9, 9)), api.OK, 0)
	is(t, r.Do(op(script.Write, 3, 3, 7)), api.OK, 0)
	for b := range 12 {
		want := nought
		if b >= 3 && b < 6 {
			want = script.Fill(b, 7)
		}
		if x, _ := back.Read(b); x != want {
			t.Error("backing sector", b)
		}
	}
	if back.Open() != 3 {
		t.Error("it was flushed")
	}
	is(t, r.Do(op(script.Flush, 0, 0, 0)), api.OK, 0)
	if back.Open() != 0 {
		t.Error("it was not flushed")
	}
	is(t, r.Do(op(script.Discard, 4, 1, 9)), api.OK, 0)
	is(t, r.Do(op(script.Read, 3, 3, 9)), api.OK, 0, script.Fill(3, 7), nought, script.Fill(5, 7))
	is(t, r.Do(op(script.Certs, 0, 0, 0)), api.OK, 0)
	is(t, r.Do(op(script.Purge, 5, 2, 9)), api.OK, 0)
	is(t, r.Do(op(script.Purge, 8, 1, 9)), api.OK, 1)
	is(t, r.Do(op(script.Purge, 6, 1, 9)), api.ErrBusy, 0)
	is(t, r.Do(op(script.Write, 5, 1, 7)), api.ErrBusy, 0)
	is(t, r.Do(op(script.Poll, 1, 9, 9)), api.OK, purge.Going)
	is(t, r.Do(op(script.Read, 5, 1, 0)), api.OK, 0, nought)
	is(t, r.Do(op(script.Detach, 0, 0, 0)), api.ErrBusy, 0)
	for range 20 {
		is(t, r.Do(op(script.Tick, 0, 0, 0)), api.OK, 0)
	}
	is(t, r.Do(op(script.Poll, 1, 0, 0)), api.OK, purge.Done)
	is(t, r.Do(op(script.Certs, 5, 5, 5)), api.OK, 2)
	is(t, r.Do(op(script.Detach, 0, 0, 0)), api.OK, 0)
	is(t, r.Do(op(script.Read, 0, 1, 0)), api.ErrState, 0)
	is(t, r.Do(op(script.Purge, 0, 1, 0)), api.ErrState, 0)
	if r.Volume() == nil {
		t.Error("it is closed, but there")
	}
	is(t, r.Do(op(script.Crash, 0, 0, 0)), api.OK, 0) // it is opened again
	is(t, r.Do(op(script.Read, 3, 1, 0)), api.OK, 0, script.Fill(3, 7))
}

// P21.2
func TestPlan(t *testing.T) {
	r := made(t)
	ssd, back := r.Devices()
	is(t, r.Do(op(script.Plan, 0, 3, dev.Fails)), api.OK, 0)
	is(t, r.Do(op(script.Plan, 1, 64, dev.Drops)), api.OK, 0)
	is(t, r.Do(op(script.Plan, 0, 0, dev.Goes)), api.OK, 0)
	for _, o := range []script.Op{
		op(script.Plan, 2, 1, 0), op(script.Plan, -1, 1, 0), op(script.Plan, most, 0, 0), op(script.Plan, 0, -1, 0), op(script.Plan, 0, 65, 0), op(script.Plan, 1, 65, 0),
		op(script.Plan, 1, most, 0), op(script.Plan, 0, least, 0), op(script.Plan, 0, 1, 3), op(script.Plan, 1, 64, -1), op(script.Plan, 2, 65, 5),
	} {
		is(t, r.Do(o), api.ErrArg, 0)
	}
	if ssd.Planned() != 3 || back.Planned() != 64 {
		t.Error(ssd.Planned(), back.Planned())
	}
	is(t, r.Do(op(script.Write, 0, 1, 1)), api.ErrWrite, 0)
	is(t, r.Do(op(script.Purge, 0, 1, 1)), api.ErrRead, 0)
	is(t, r.Do(op(script.Certs, 0, 0, 0)), api.ErrRead, 0)
	is(t, r.Do(op(script.Mode, cache.Bypass, 0, 0)), api.OK, 0)
	is(t, r.Do(op(script.Write, 0, 1, 1)), api.OK, 0)
	is(t, r.Do(op(script.Read, 0, 1, 1)), api.OK, 0, nought) // it was dropped
}

// P21.2
func TestCrash(t *testing.T) {
	for kept := range 64 {
		for n := range 8 {
			r := made(t)
			r.Do(op(script.Mode, cache.Through, 0, 0))
			r.Do(op(script.Write, 1, 2, 3)) // two writes are open of each device
			r.Do(op(script.Mode, cache.Bypass, 0, 0))
			r.Do(op(script.Write, 7, 1, 4)) // and a third one of the backing one
			ssd, back := r.Devices()
			if ssd.Open() != 2 || back.Open() != 3 {
				t.Fatal(ssd.Open(), back.Open())
			}
			keep := make([]bool, n)
			for i := range keep {
				keep[i] = kept>>i&1 == 1
			}
			is(t, r.Do(script.Op{Do: script.Crash, From: 9, N: 9, Fill: 9, Keep: keep}), api.OK, 0)
			other, behind := r.Devices()
			if other == ssd || behind == back || ssd.Open() != 2 || back.Open() != 3 {
				t.Fatal("devices are not their own")
			}
			keep = append(keep, false, false, false, false, false)
			for i, s := range []int{1, 2} {
				// Attach writes to the cache's device, but not to slots.
				b, _ := other.Firm(20 + i)
				if (b == script.Fill(s, 3)) != keep[i] || !keep[i] && b != nought {
					t.Error(keep[:n], "slot", i)
				}
			}
			for i, s := range []int{1, 2, 7} {
				x := script.Fill(s, 3)
				if s == 7 {
					x = script.Fill(s, 4)
				}
				b, _ := behind.Firm(s)
				if (b == x) != keep[2+i] || !keep[2+i] && b != nought {
					t.Error(keep[:n], "block", s)
				}
			}
			is(t, r.Do(op(script.Write, 0, 1, 1)), api.OK, 0) // Back is the mode again
			if _, in := r.Devices(); in.Open() != 0 {
				t.Error("another mode")
			}
		}
	}
}

// P21.2
func TestNoVolume(t *testing.T) {
	r := made(t)
	r.Do(op(script.Firm, 4, 1, 6))
	ssd, _ := r.Devices()
	b, _ := ssd.Read(0)
	ssd.Write(0, nought)
	is(t, r.Do(script.Op{Do: script.Crash, Keep: []bool{true}}), api.ErrSum, 0)
	if r.Volume() != nil {
		t.Error("there is a volume")
	}
	for do := range script.Plan {
		want := api.ErrState
		is(t, r.Do(op(do, 0, 1, 1)), want, 0)
	}
	is(t, r.Do(op(script.Write, 0, 0, 1)), api.ErrArg, 0) // is told ahead of ErrState
	is(t, r.Do(op(script.Firm, 0, 65, 1)), api.ErrArg, 0)
	is(t, r.Do(op(13, 0, 1, 1)), api.ErrArg, 0)
	ssd, _ = r.Devices()
	is(t, r.Do(op(script.Plan, 0, 1, dev.Fails)), api.OK, 0)
	if ssd.Write(0, b) != api.ErrWrite || ssd.Write(0, b) != api.OK {
		t.Error("Plan")
	}
	is(t, r.Do(script.Op{Do: script.Crash, Keep: []bool{true}}), api.OK, 0)
	is(t, r.Do(op(script.Read, 4, 1, 0)), api.OK, 0, script.Fill(4, 6))
}

// P21.3
func TestModel(t *testing.T) {
	for i, c := range []struct {
		blocks int
		l      []script.Op
		want   []int // fills
	}{
		{0, []script.Op{op(script.Write, 0, 1, 1)}, nil},
		{-1, nil, nil}, {least, nil, nil},
		{1, []script.Op{op(script.Write, 0, 1, 1)}, []int{1}},
		{3, nil, []int{0, 0, 0}},
		{3, []script.Op{op(script.Write, 0, 2, 1), op(script.Firm, 1, 2, 2)}, []int{1, 2, 2}},
		{3, []script.Op{op(script.Write, 0, 3, 1), op(script.Discard, 1, 1, 5)}, []int{1, 0, 1}},
		{3, []script.Op{op(script.Write, 0, 3, 1), op(script.Purge, 1, 2, 5), op(script.Write, 2, 1, 4)}, []int{1, 0, 4}},
		{3, []script.Op{op(script.Write, 0, 3, 1), op(script.Write, 0, 1, 0)}, []int{0, 1, 1}},
		{3, []script.Op{op(script.Write, 0, 4, 1), op(script.Write, -1, 2, 1), op(script.Write, 3, 1, 1), op(script.Write, 0, 0, 1), op(script.Write, 1, -1, 1), op(script.Write, most, most, 1), op(script.Write, 1, most, 1), op(script.Write, least, 1, 1)}, []int{0, 0, 0}},
		{3, []script.Op{op(script.Firm, 0, 3, 1), op(script.Discard, 0, 4, 0), op(script.Purge, 2, 2, 0), op(script.Discard, -1, 2, 0), op(script.Purge, 0, 0, 0), op(script.Purge, most, most, 0), op(script.Discard, 1, -1, 0)}, []int{1, 1, 1}},
		{3, []script.Op{op(script.Firm, 0, 3, 1), op(script.Read, 0, 3, 2), op(script.Flush, 0, 3, 2), op(script.Poll, 0, 3, 2), op(script.Tick, 0, 3, 2), op(script.Certs, 0, 3, 2), op(script.Mode, 0, 3, 2), op(script.Detach, 0, 3, 2), op(script.Plan, 0, 3, 2), op(script.Crash, 0, 3, 2), op(-1, 0, 3, 2), op(13, 0, 3, 2)}, []int{1, 1, 1}},
		{3, []script.Op{op(script.Detach, 0, 0, 0), op(script.Purge, 0, 1, 0), op(script.Write, 0, 1, 9)}, []int{9, 0, 0}}, // what Do would refuse
	} {
		got := script.Model(c.blocks, c.l...)
		if len(got) != len(c.want) {
			t.Fatal(i, len(got))
		}
		for b, fill := range c.want {
			if got[b] != script.Fill(b, fill) {
				t.Error(i, "block", b)
			}
		}
	}
	for n, want := range map[int]int{64: 5, 65: 0} {
		for _, do := range []int{script.Write, script.Firm} {
			got := script.Model(100, op(do, 2, n, 5))
			if got[2] != script.Fill(2, want) || got[65] != script.Fill(65, want) || got[66] != nought || got[1] != nought {
				t.Error(n, do)
			}
		}
	}
	l := script.Model(100, op(script.Write, 0, 64, 1), op(script.Write, 36, 64, 1), op(script.Discard, 1, 98, 0))
	if l[0] != script.Fill(0, 1) || l[1] != nought || l[98] != nought || l[99] != script.Fill(99, 1) {
		t.Error("a long span")
	}
}

// dice is a row of numbers that look thrown.
type dice int

func (d *dice) next(most int) int {
	*d = (*d*1103515245 + 12345) & (1<<31 - 1)
	return int(*d) >> 8 % most
}

// throw is an op that may be anything but Plan, Crash, or Detach.
func throw(n *dice) script.Op {
	from := n.next(12)
	o := op(0, from, 1+n.next(min(5, 12-from)), 1+n.next(200))
	switch n.next(12) {
	case 0, 1, 2:
		o.Do = script.Write
	case 3:
		o.Do = script.Firm
	case 4:
		o.Do = script.Discard
	case 5:
		o.Do = script.Flush
	case 6:
		o.Do, o.From = script.Mode, n.next(3)
	case 7:
		o.Do, o.From = script.Poll, n.next(3)
	case 8:
		if n.next(3) == 0 {
			o.Do = script.Purge
		}
	default:
		o.Do = script.Tick
	}
	return o
}

// P21.4
func TestReadsAreTheModels(t *testing.T) {
	for seed := range 25 {
		n := dice(seed * 101)
		r := made(t)
		var done []script.Op
		for step := range 300 {
			o := throw(&n)
			a := r.Do(o)
			switch {
			case a.Code == api.OK:
				done = append(done, o)
			case a.Code != api.ErrBusy && a.Code != api.ErrFull && a.Code != api.ErrNone:
				t.Fatal(seed, step, o, int(a.Code))
			}
			is(t, r.Do(op(script.Read, 0, 12, 0)), api.OK, 0, script.Model(12, done...)...)
			if t.Failed() {
				t.Fatal(seed, step, o)
			}
		}
	}
}

// faults puts faults and crashes between ops, such that do not lie.
func faults(n *dice, l []script.Op) (all []script.Op) {
	for _, o := range l {
		switch n.next(12) {
		case 0:
			all = append(all, op(script.Plan, n.next(2), n.next(20), dev.Goes), op(script.Plan, n.next(2), 1+n.next(2), dev.Fails))
		case 1:
			x := script.Op{Do: script.Crash}
			for range n.next(30) {
				x.Keep = append(x.Keep, n.next(2) == 0)
			}
			all = append(all, x)
		}
		all = append(all, o)
	}
	return all
}

// P21.4, T2
func TestNothingHangsOnWhatWasPurged(t *testing.T) {
	const from, many = 3, 4 // the span that is purged
	certified := 0
	for seed := range 250 {
		n := dice(seed * 211)
		var l []script.Op
		for range 12 {
			o := throw(&n)
			if o.Do != script.Purge {
				l = append(l, o)
			}
			if n.next(3) == 0 {
				l = append(l, op(script.Write, from+n.next(many), 1, -1))
			}
		}
		ahead := len(l)
		l = append(l, op(script.Purge, from, many, 0))
		for range 12 {
			l = append(l, op(script.Tick, 0, 0, 0), op(script.Poll, 0, 0, 0))
			if o := throw(&n); o.Do != script.Purge {
				l = append(l, o)
			}
		}
		for i := range l { // what the span is filled with is told by a Fill of its own
			o := &l[i]
			if i < ahead && (o.Do == script.Write || o.Do == script.Firm) && o.From < from+many && from < o.From+o.N {
				o.From, o.N, o.Fill = from+o.From%many, 1, -1
			}
		}
		if seed%5 > 0 {
			l = faults(&n, l)
		}
		a, b := made(t), made(t)
		for step, o := range l {
			x, y := o, o
			if o.Fill == -1 && o.Do == script.Write || o.Fill == -1 && o.Do == script.Firm {
				x.Fill, y.Fill = 1+step, 100+3*step
			}
			p, q := a.Do(x), b.Do(y)
			if o.Do == script.Read {
				p.Data, q.Data = nil, nil
			}
			if p.Code != q.Code || p.N != q.N || !slices.Equal(p.Data, q.Data) {
				t.Fatal(seed, step, o, p, q)
			}
			if o.Do == script.Poll && o.From == 0 && p.Code == api.OK && p.N == purge.Done {
				certified++
				ssd, back := a.Devices()
				other, behind := b.Devices()
				if !dev.Same(ssd, other) || !dev.Same(back, behind) {
					t.Fatal(seed, step, "devices differ behind the certificate")
				}
			}
		}
	}
	if certified < 100 {
		t.Error("so few were certified:", certified)
	}
}
