package writeback_test

import (
	"slices"
	"testing"

	"lavabo/api"
	"lavabo/cache"
	"lavabo/dev"
	"lavabo/forms"
	"lavabo/writeback"
)

const most, least = 1<<63 - 1, -1 << 63

// rig is a cache of some dirty blocks, and its devices.
type rig struct {
	*cache.Cache
	t         *testing.T
	ssd, back *dev.Device
}

func block(n int) api.Block { return api.Block{byte(n + 1), byte(n >> 8)} }

// made is a cache of 100 blocks and slots, of which those handed in are dirty, and firm.
func made(t *testing.T, journal int, l ...int) *rig {
	t.Helper()
	s := forms.Super{Blocks: 100, Slots: 100, Journal: journal, Pages: 25, Logs: 1, Batch: 1}
	p, _ := cache.Plan(s)
	ssd, _ := dev.New(p.Size)
	back, _ := dev.New(s.Blocks)
	c, e := cache.New(s, ssd, back, 0, 0)
	if e != api.OK {
		t.Fatal(int(e))
	}
	r := &rig{Cache: c, t: t, ssd: ssd, back: back}
	for _, b := range l {
		r.ok(r.Write(b, block(b), cache.Back))
	}
	r.ok(r.Checkpoint())
	return r
}

func (r *rig) ok(e api.Errno) {
	r.t.Helper()
	if e != api.OK {
		r.t.Errorf("error %d", int(e))
	}
}

// dirty tells if other blocks are dirty.
func (r *rig) dirty(want ...int) {
	r.t.Helper()
	if l := writeback.Dirty(r.Cache); !slices.Equal(l, want) {
		r.t.Errorf("dirty: %v, not %v", l, want)
	}
}

// step tells if a step answers otherwise.
func (r *rig) step(n, done int, want api.Errno) {
	r.t.Helper()
	if m, e := writeback.Step(r.Cache, n); m != done || e != want {
		r.t.Errorf("Step %d: %d %d, not %d %d", n, m, int(e), done, int(want))
	}
}

// tick tells if a tick answers otherwise.
func (r *rig) tick(p writeback.Policy, done int, want api.Errno) {
	r.t.Helper()
	if m, e := writeback.Tick(r.Cache, p); m != done || e != want {
		r.t.Errorf("Tick %v: %d %d, not %d %d", p, m, int(e), done, int(want))
	}
}

// backing tells if not just these sectors of the backing device are as their blocks were written.
func (r *rig) backing(firm bool, want ...int) {
	r.t.Helper()
	for b := range r.back.Size() {
		x, _ := r.back.Firm(b)
		if !firm {
			x, _ = r.back.Copy().Read(b)
		}
		if slices.Contains(want, b) != (x == block(b)) || !slices.Contains(want, b) && x != (api.Block{}) {
			r.t.Errorf("backing sector %d: %v", b, x[:2])
		}
	}
}

func upTo(n int) (l []int) {
	for i := range n {
		l = append(l, i)
	}
	return l
}

// P15.1
func TestCheck(t *testing.T) {
	for _, c := range []struct {
		high, low, batch, slots int
		ok                      bool
	}{
		{0, 0, 1, 0, true}, {4, 2, 2, 4, true}, {4, 4, 64, 4, true}, {4, 0, 1, 1000, true},
		{4, 2, 0, 4, false}, {4, 2, 65, 4, false}, {4, 2, -1, 4, false}, {4, -1, 1, 4, false}, {4, 5, 1, 6, false}, {5, 2, 1, 4, false},
		{0, 0, 1, -1, false}, {most, 0, 1, 4, false}, {4, least, 1, 4, false}, {least, least, 1, 4, false}, {4, most, 1, most, false}, {4, 2, least, 4, false},
	} {
		want := api.ErrArg
		if c.ok {
			want = api.OK
		}
		if e := writeback.Check(writeback.Policy{High: c.high, Low: c.low, Batch: c.batch}, c.slots); e != want {
			t.Error(c, int(e))
		}
	}
}

// P15.1
func TestDirty(t *testing.T) {
	r := made(t, 20, 9, 3, 7, 99, 0)
	r.dirty(0, 3, 7, 9, 99)
	r.ok(r.Write(7, block(1), cache.Through))
	r.ok(r.Clean(3))
	r.ok(r.Drop(99))
	r.dirty(0, 9)
	if l := writeback.Dirty(nil); len(l) != 0 {
		t.Error(l)
	}
}

// P15.2
func TestStep(t *testing.T) {
	r := made(t, 20, 9, 3, 7)
	r.step(2, 2, api.OK)
	r.dirty(9)
	r.backing(true, 3, 7)
	for _, n := range []int{0, -1, least} {
		r.step(n, 0, api.ErrArg)
	}
	r.step(most, 1, api.OK)
	r.dirty()
	r.backing(true, 3, 7, 9)
	r.back.Plan(dev.Fails)
	r.step(5, 0, api.OK) // none is dirty: it is not flushed
	if r.back.Planned() != 1 {
		t.Error("it was flushed")
	}
	if n, e := writeback.Step(nil, 0); n != 0 || e != api.ErrNil {
		t.Error(n, int(e))
	}
	for _, b := range []int{3, 7, 9} {
		if x, e := r.Read(b); x != block(b) || e != api.OK {
			t.Error(b, int(e))
		}
	}
}

// P15.2
func TestStepReadsAndWritesOneBehindTheOther(t *testing.T) {
	r := made(t, 20, 1, 2, 3)
	r.ssd.Plan(dev.Goes, dev.Fails)
	r.step(3, 0, api.ErrRead)
	r.backing(false, 1)
	r.backing(true)
	r.dirty(1, 2, 3)
	r.back.Plan(dev.Goes, dev.Fails)
	r.ssd.Plan(dev.Goes, dev.Goes, dev.Fails)
	r.step(3, 0, api.ErrWrite)
	if r.ssd.Planned() != 1 || r.back.Planned() != 0 {
		t.Error("it goes on", r.ssd.Planned(), r.back.Planned())
	}
	r.ssd.Flush()
	r.back.Plan(dev.Goes, dev.Goes, dev.Goes, dev.Fails)
	r.step(3, 0, api.ErrFlush)
	r.backing(false, 1, 2, 3)
	r.backing(true)
	r.dirty(1, 2, 3)
	p, _ := r.Place(2)
	r.ssd.Write(r.Layout().Slots+p.Slot, block(77))
	r.step(3, 0, api.ErrSum)
	r.step(1, 1, api.OK)
	r.dirty(2, 3)
}

// P15.2
func TestStepTellsHowManyAreClean(t *testing.T) {
	r := made(t, 4, 1, 2, 3, 4, 5)
	// Of four records, room for two of which must be, three are told; then a checkpoint is saved.
	r.ssd.Plan(0, 0, 0, 0, 0, dev.Fails)
	r.step(5, 3, api.ErrFlush)
	r.dirty(4, 5)
	r.backing(true, 1, 2, 3, 4, 5)
	r.step(5, 2, api.OK)
	r.dirty()
}

// P15.3
func TestTick(t *testing.T) {
	p := writeback.Policy{High: 4, Low: 2, Batch: 2}
	r := made(t, 20, 9, 3, 7, 5, 1)
	r.tick(p, 2, api.OK)
	r.dirty(5, 7, 9)
	r.tick(p, 0, api.OK)
	r.dirty(5, 7, 9)
	r = made(t, 20, 9, 3, 7, 5, 1)
	r.tick(writeback.Policy{High: 4, Low: 2, Batch: 64}, 3, api.OK)
	r.dirty(7, 9)
	r = made(t, 20, 9, 3, 7, 5)
	r.tick(p, 0, api.OK) // no more than High
	r.tick(writeback.Policy{High: 0, Low: 0, Batch: 64}, 4, api.OK)
	r.tick(writeback.Policy{High: 0, Low: 0, Batch: 64}, 0, api.OK)
	r = made(t, 20, 9, 3, 7, 5)
	r.tick(writeback.Policy{High: 3, Low: 3, Batch: 64}, 1, api.OK)
	r.dirty(5, 7, 9)
	r.ssd.Plan(dev.Fails)
	r.tick(writeback.Policy{High: 2, Low: 2, Batch: 64}, 0, api.ErrRead)
	for _, p := range []writeback.Policy{{High: 101, Low: 2, Batch: 2}, {High: 4, Low: 5, Batch: 2}, {High: 4, Low: 2}, {High: 4, Low: -1, Batch: 2}} {
		r.tick(p, 0, api.ErrArg)
	}
	r.dirty(5, 7, 9)
	r.tick(writeback.Policy{High: 100, Low: 100, Batch: 1}, 0, api.OK)
	if n, e := writeback.Tick(nil, writeback.Policy{}); n != 0 || e != api.ErrNil {
		t.Error(n, int(e))
	}
}

// P15.3, P15.4
func TestDrain(t *testing.T) {
	for _, n := range []int{0, 1, 63, 64, 65, 100} {
		r := made(t, 8, upTo(n)...)
		r.ok(writeback.Drain(r.Cache))
		r.dirty()
		r.backing(true, upTo(n)...)
		for b := range 100 {
			want := api.Block{}
			if b < n {
				want = block(b)
			}
			if x, e := r.Read(b); x != want || e != api.OK {
				t.Error("block", b, "reads", x[:2], int(e))
			}
		}
	}
	if e := writeback.Drain(nil); e != api.ErrNil {
		t.Error(int(e))
	}
}

// P15.3
func TestDrainStepsBy64AndCommits(t *testing.T) {
	r := made(t, 200, upTo(65)...)
	// The flush behind 64 writes goes, that behind the 65th does not.
	r.back.Plan(append(make([]int, 66), dev.Fails)...)
	if e := writeback.Drain(r.Cache); e != api.ErrFlush {
		t.Error(int(e))
	}
	r.dirty(64)
	r.back.Plan(0, 0, dev.Fails)
	if e := writeback.Drain(r.Cache); e != api.ErrFlush {
		t.Error("Commit's", int(e))
	}
	r.dirty()
	r.back.Plan(dev.Fails)
	if e := writeback.Drain(r.Cache); e != api.ErrFlush {
		t.Error("it is committed, also if none is dirty", int(e))
	}
	r.back.Write(99, block(99))
	r.ok(writeback.Drain(r.Cache))
	r.backing(true, append(upTo(65), 99)...)
}
