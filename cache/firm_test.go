package cache_test

import (
	"slices"
	"testing"

	"lavabo/api"
	"lavabo/cache"
	"lavabo/dev"
	"lavabo/forms"
	"lavabo/slots"
)

// turned is a cache of blocks 0 (twice written) and 2: two slots are live, one is stale.
func turned(t *testing.T) *rig {
	t.Helper()
	r := scrubbed(t, 0)
	r.write(0, 1, cache.Back, api.OK)
	r.write(2, 2, cache.Through, api.OK)
	r.write(0, 3, cache.Back, api.OK)
	r.states(slots.Stale, slots.Live, slots.Live)
	return r
}

// P14.5
func TestCommit(t *testing.T) {
	r := turned(t)
	r.back.Plan(dev.Fails)
	r.ssd.Plan(dev.Fails)
	r.is(r.Commit(), api.ErrFlush)
	r.planned(1, 0) // the backing device comes first
	r.is(r.Commit(), api.ErrFlush)
	r.planned(0, 0)
	r.states(slots.Stale, slots.Live, slots.Live)
	r.ssd.Plan(dev.Goes, dev.Goes, dev.Fails)
	r.is(r.Commit(), api.ErrWrite)
	r.states(slots.Stale, slots.Live, slots.Live)
	r.ssd.Plan(dev.Goes, dev.Goes, dev.Goes, dev.Goes, dev.Fails)
	r.is(r.Commit(), api.ErrFlush)
	r.planned(0, 0)
	r.states(slots.Stale, slots.Live, slots.Live)
	r.ok(r.Commit())
	r.states(slots.Free, slots.Live, slots.Live)
	r.records(put(1, 0, 0, true, 1), put(2, 2, 1, false, 2), put(3, 0, 2, true, 3))
	r.backing(2, block(2), block(2))
	r.ssd.Plan(dev.Goes, dev.Fails)
	r.ok(r.Commit()) // nothing waits
	r.planned(1, 0)
}

// P14.5
func TestCheckpoint(t *testing.T) {
	r := turned(t)
	want := []forms.Entry{{Block: 0, Slot: 2, Dirty: true, Sum: sum(3)}, {Block: 2, Slot: 1, Sum: sum(2)}}
	r.back.Plan(dev.Fails)
	r.ssd.Plan(dev.Fails)
	r.is(r.Checkpoint(), api.ErrFlush)
	r.planned(1, 0) // the backing device comes first
	r.is(r.Checkpoint(), api.ErrFlush)
	r.planned(0, 0)
	r.ssd.Plan(dev.Goes, dev.Fails)
	r.is(r.Checkpoint(), api.ErrWrite)
	r.ssd.Plan(dev.Goes, dev.Goes, dev.Fails)
	r.is(r.Checkpoint(), api.ErrFlush)
	r.states(slots.Stale, slots.Live, slots.Live)
	if l, _ := r.ssd.Firm(1); l != nought {
		t.Error("it was written at the last one")
	}
	r.ok(r.Checkpoint())
	r.states(slots.Free, slots.Live, slots.Live)
	r.checkpoint(1, 3, want...)
	r.backing(2, block(2), block(2))
	r.records()
	r.ok(r.Commit())
	r.records() // all records are covered
	r.ok(r.Drop(0))
	r.ok(r.Checkpoint())
	r.checkpoint(0, 4, want[1])
	r.ok(r.Checkpoint())
	r.checkpoint(0, 4, want[1]) // both have the same Seq
	r.ok(r.Drop(2))
	r.ok(r.Checkpoint())
	r.checkpoint(0, 5)
}

// P14.5
func TestCheckpointOfASumThatMayNotBe(t *testing.T) {
	r := made(t, small(), 5, forms.Entry{Block: 1, Slot: 1, Sum: -1})
	r.is(r.Checkpoint(), api.ErrRange)
	r.ok(r.Drop(1))
	r.ok(r.Checkpoint())
	r.checkpoint(1, 6)
}

// P14.5
func TestOverwrite(t *testing.T) {
	fresh := func() *dev.Device {
		d, _ := dev.New(6)
		for s := range 6 {
			d.Write(s, block(s+1))
		}
		d.Flush()
		return d
	}
	for i, c := range []struct {
		plan []int
		l    []int
		bad  []int
		e    api.Errno
	}{
		{nil, []int{4, 1}, nil, api.OK},
		{nil, nil, nil, api.OK},
		{[]int{dev.Fails}, []int{4, 1}, []int{4}, api.OK},                                               // it is not written
		{[]int{dev.Goes, dev.Drops}, []int{4, 1}, []int{1}, api.OK},                                     // it is not nought
		{[]int{dev.Goes, dev.Goes, dev.Fails}, []int{4, 1}, nil, api.ErrFlush},                          // it is not flushed
		{[]int{dev.Goes, dev.Goes, dev.Goes, dev.Fails}, []int{4, 1}, []int{4}, api.OK},                 // it is not read
		{[]int{dev.Fails, dev.Fails, dev.Goes, dev.Fails, dev.Fails}, []int{4, 1}, []int{1, 4}, api.OK}, // neither
		{[]int{dev.Fails, dev.Goes}, []int{2, 2}, []int{2}, api.OK},                                     // twice, and the second time it is
		{nil, []int{-1, 3, 6, most, least}, []int{least, -1, 6, most}, api.OK},                          // what is not there
		{[]int{dev.Fails}, nil, nil, api.ErrFlush},
	} {
		d := fresh()
		d.Plan(c.plan...)
		was := slices.Clone(c.l)
		bad, e := cache.Overwrite(d, c.l...)
		if !slices.Equal(bad, c.bad) || e != c.e || d.Planned() != 0 || !slices.Equal(was, c.l) {
			t.Error(i, bad, int(e), d.Planned())
		}
	}
	d := fresh()
	d.Plan(dev.Goes, dev.Goes, dev.Goes, dev.Goes, dev.Goes, dev.Goes, dev.Goes, dev.Fails)
	if bad, e := cache.Overwrite(d, 3, 5, 3); len(bad) != 0 || e != api.OK || d.Planned() != 1 {
		t.Error("three writes, a flush, and three reads", bad, int(e), d.Planned())
	}
	for s := range 6 {
		if b, _ := d.Firm(s); (b == nought) != (s == 3 || s == 5) {
			t.Error("sector", s)
		}
	}
}

// P14.5
func TestWipe(t *testing.T) {
	r := turned(t)
	r.ok(r.Commit())
	r.back.Plan(dev.Goes, dev.Fails)
	if l, e := r.Wipe(); len(l) != 0 || e != api.ErrFlush {
		t.Error("the second checkpoint", l, int(e))
	}
	r.records(put(1, 0, 0, true, 1), put(2, 2, 1, false, 2), put(3, 0, 2, true, 3))
	if l, e := r.Wipe(); len(l) != 0 || e != api.OK {
		t.Error(l, int(e))
	}
	r.records()
	for s := 3; s < 11; s++ {
		if b, _ := r.ssd.Firm(s); b != nought {
			t.Error("sector", s)
		}
	}
	a, _ := r.ssd.Firm(1)
	b, _ := r.ssd.Firm(2)
	if a != b || a == nought {
		t.Error("the checkpoints are not the same")
	}
	r.states(slots.Free, slots.Live, slots.Live)
	// A checkpoint is a flush, a page, and a flush; then come the journal's 8 sectors.
	plan := slices.Repeat([]int{dev.Goes}, 6)
	r.ssd.Plan(append(plan, dev.Goes, dev.Fails)...)
	if l, e := r.Wipe(); !slices.Equal(l, []int{4}) || e != api.OK {
		t.Error("a sector that is not overwritten", l, int(e))
	}
	r.ssd.Plan(append(plan, 0, 0, 0, 0, 0, 0, 0, 0, dev.Fails)...)
	if l, e := r.Wipe(); len(l) != 0 || e != api.ErrFlush {
		t.Error("a flush that fails", l, int(e))
	}
	r.write(5, 5, cache.Back, api.OK)
	r.ok(r.Commit())
	r.records(put(4, 5, 0, true, 5)) // records go on
}
