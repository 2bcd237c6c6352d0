package cache_test

import (
	"testing"

	"lavabo/api"
	"lavabo/cache"
	"lavabo/dev"
	"lavabo/forms"
	"lavabo/journal"
	"lavabo/ledger"
	"lavabo/slots"
)

// scrubbed is a cache whose slots have no owners.
func scrubbed(t *testing.T, seq int) *rig {
	t.Helper()
	r := made(t, small(), seq)
	for slot := range small().Slots {
		r.ok(r.Scrubbed(slot))
	}
	return r
}

// put is the record of a block in a slot.
func put(seq, n, slot int, dirty bool, x int) forms.Record {
	return forms.Record{Seq: seq, Lap: (seq - 1) / 8, Op: journal.Put, Block: n, Slot: slot, Dirty: dirty, Sum: sum(x)}
}

func drop(seq, n int) forms.Record {
	return forms.Record{Seq: seq, Lap: (seq - 1) / 8, Op: journal.Drop, Block: n}
}

// P14.3
func TestWriteRefuses(t *testing.T) {
	r := scrubbed(t, 0)
	r.ssd.Plan(dev.Fails)
	r.back.Plan(dev.Fails)
	for _, n := range []int{-1, 8, most, least} {
		r.write(n, 1, cache.Back, api.ErrRange)
		r.write(n, 1, 9, api.ErrRange)
		r.is(r.Discard(n), api.ErrRange)
	}
	for _, mode := range []int{-1, 3, most, least} {
		r.write(0, 1, mode, api.ErrArg)
	}
	r.planned(1, 1)
	r.states(0, 0, 0)
	if cache.Back != 0 || cache.Through != 1 || cache.Bypass != 2 {
		t.Error("modes are numbered otherwise")
	}
}

// P14.3
func TestBack(t *testing.T) {
	r := scrubbed(t, 0)
	r.back.Plan(dev.Fails)
	r.write(3, 5, cache.Back, api.OK)
	r.planned(0, 1)
	r.at(3, 0, true)
	r.states(slots.Live, slots.Free, slots.Free)
	r.slot(0, block(5))
	r.owners(0, 3)
	r.write(3, 6, cache.Back, api.OK)
	r.at(3, 1, true)
	r.states(slots.Stale, slots.Live, slots.Free)
	r.owners(0, 3)
	r.owners(1, 3)
	r.reads(3, block(6))
	r.records()
	r.is(r.Commit(), api.ErrFlush)
	r.ok(r.Commit())
	r.records(put(1, 3, 0, true, 5), put(2, 3, 1, true, 6))
	r.states(slots.Free, slots.Live, slots.Free)
	r.write(4, 7, cache.Back, api.OK)
	r.owners(0, 3, 4) // it was not scrubbed
}

// P14.3
func TestBackWhoseSlotFails(t *testing.T) {
	r := scrubbed(t, 0)
	r.write(3, 5, cache.Back, api.OK)
	r.ssd.Plan(dev.Fails)
	r.write(3, 6, cache.Back, api.ErrWrite)
	r.at(3, 0, true)
	r.states(slots.Live, slots.Bad, slots.Free)
	r.owners(1, 3)
	r.reads(3, block(5))
	r.ok(r.Commit())
	r.records(put(1, 3, 0, true, 5))
	r.states(slots.Live, slots.Bad, slots.Free)
	r.ssd.Plan(dev.Fails)
	r.write(4, 6, cache.Back, api.ErrWrite)
	r.at(4, -1, false)
	r.write(4, 6, cache.Back, api.OK) // no slot is left
	r.at(4, -1, false)
	r.backing(4, block(6), nought)
	r.states(slots.Live, slots.Bad, slots.Bad)
}

// P14.3
func TestThrough(t *testing.T) {
	r := scrubbed(t, 0)
	r.write(3, 5, cache.Through, api.OK)
	r.at(3, 0, false)
	r.slot(0, block(5))
	r.owners(0, 3)
	r.backing(3, block(5), nought)
	r.write(3, 6, cache.Back, api.OK)
	r.write(3, 7, cache.Through, api.OK)
	r.at(3, 2, false)
	r.states(slots.Stale, slots.Stale, slots.Live)
	r.backing(3, block(7), nought)
	r.reads(3, block(7))
	r.ok(r.Commit())
	r.backing(3, block(7), block(7))
	r.records(put(1, 3, 0, false, 5), put(2, 3, 1, true, 6), put(3, 3, 2, false, 7))
}

// P14.3
func TestThroughWhoseBackingFails(t *testing.T) {
	r := scrubbed(t, 0)
	r.write(3, 5, cache.Back, api.OK)
	r.back.Plan(dev.Fails)
	r.ssd.Plan(dev.Fails)
	r.write(3, 6, cache.Through, api.ErrWrite)
	r.planned(1, 0) // nothing was written to the slot
	r.ssd.Flush()
	r.at(3, 0, true)
	r.states(slots.Live, slots.Stale, slots.Free)
	r.owners(1)
	r.reads(3, block(5))
	r.ok(r.Commit())
	r.records(put(1, 3, 0, true, 5))
}

// P14.3
func TestThroughWhoseSlotFails(t *testing.T) {
	r := scrubbed(t, 0)
	r.ssd.Plan(dev.Fails)
	r.write(3, 5, cache.Through, api.OK)
	r.at(3, -1, false)
	r.states(slots.Bad, slots.Free, slots.Free)
	r.reads(3, block(5))
	r.write(3, 6, cache.Back, api.OK)
	r.at(3, 1, true)
	r.ssd.Plan(dev.Fails)
	r.write(3, 7, cache.Through, api.OK)
	r.at(3, -1, false)
	r.states(slots.Bad, slots.Stale, slots.Bad)
	r.reads(3, block(7))
	r.ok(r.Commit())
	r.records(put(1, 3, 1, true, 6), drop(2, 3))
}

// P14.3
func TestBypass(t *testing.T) {
	r := scrubbed(t, 0)
	r.ssd.Plan(dev.Fails)
	r.write(3, 5, cache.Bypass, api.OK)
	r.planned(1, 0)
	r.ssd.Flush()
	r.at(3, -1, false)
	r.backing(3, block(5), nought)
	r.states(0, 0, 0)
	r.write(3, 6, cache.Back, api.OK)
	r.back.Plan(dev.Fails)
	r.write(3, 7, cache.Bypass, api.ErrWrite)
	r.at(3, 0, true)
	r.reads(3, block(6))
	r.write(3, 8, cache.Bypass, api.OK)
	r.at(3, -1, false)
	r.reads(3, block(8))
	r.states(slots.Stale, slots.Free, slots.Free)
	r.ok(r.Commit())
	r.records(put(1, 3, 0, true, 6), drop(2, 3))
}

// P14.3
func TestDiscard(t *testing.T) {
	r := scrubbed(t, 0)
	r.write(3, 5, cache.Through, api.OK)
	r.back.Plan(dev.Fails)
	r.is(r.Discard(3), api.ErrWrite)
	r.reads(3, block(5))
	r.ok(r.Discard(3))
	r.at(3, -1, false)
	r.backing(3, nought, nought)
	r.reads(3, nought)
	r.write(4, 6, cache.Bypass, api.OK)
	r.ok(r.Discard(4))
	r.reads(4, nought)
}

// P14.3
func TestDirtySlotsStay(t *testing.T) {
	s := small()
	s.Slots = 2
	r := made(t, s, 0)
	r.write(0, 1, cache.Back, api.OK)
	r.write(1, 2, cache.Back, api.OK)
	for i, mode := range []int{cache.Back, cache.Through, cache.Bypass} {
		r.write(2+i, 3, mode, api.OK)
		r.at(2+i, -1, false)
		r.backing(2+i, block(3), nought)
	}
	r.states(slots.Live, slots.Live)
	r.write(0, 4, cache.Back, api.OK) // its own slot cannot go either, ahead of the write
	r.at(0, -1, false)
	r.states(slots.Stale, slots.Live)
	r.backing(0, block(4), nought)
	r.reads(0, block(4))
}

// P14.3
func TestNothingIsCommittedForNoSlot(t *testing.T) {
	r := scrubbed(t, 0)
	for n := range 3 {
		r.write(n, 1, cache.Back, api.OK)
	}
	r.back.Plan(dev.Fails)
	r.write(5, 2, cache.Back, api.ErrWrite) // and not ErrFlush
	r.records()
	r.write(5, 2, cache.Through, api.OK)
	r.records()
}

// P14.3
func TestErrorsOfEvictAreThoseOfWrites(t *testing.T) {
	for _, mode := range []int{cache.Back, cache.Through} {
		r := scrubbed(t, 0)
		for n := range 3 {
			r.write(n, 1, cache.Through, api.OK)
		}
		for range 4 {
			r.ok(r.Clean(2))
		}
		r.back.Plan(dev.Fails) // of the checkpoint that makes room
		r.write(5, 2, mode, api.ErrFlush)
		r.at(0, 0, false)
		r.backing(5, nought, nought)
		r.write(5, 2, mode, api.OK)
		r.at(0, -1, false)
		r.at(5, 0, mode == cache.Back)
		r = scrubbed(t, api.MaxSeq-3)
		for n := range 3 {
			r.write(n, 1, cache.Through, api.OK)
		}
		r.write(5, 2, mode, api.ErrOver)
		r.backing(5, nought, nought)
		r.states(slots.Live, slots.Live, slots.Live)
	}
}

// P14.3
func TestCleanSlotsGo(t *testing.T) {
	r := scrubbed(t, 0)
	for n := range 3 {
		r.write(n, n+1, cache.Through, api.OK)
	}
	r.write(5, 9, cache.Back, api.OK)
	r.at(0, -1, false)
	r.at(5, 0, true)
	r.states(slots.Live, slots.Live, slots.Live)
	r.owners(0, 0, 5)
	r.records(put(1, 0, 0, false, 1), put(2, 1, 1, false, 2), put(3, 2, 2, false, 3), drop(4, 0)) // it was committed ahead of that
	r.backing(0, block(1), block(1))
	r.back.Plan(dev.Fails)
	r.write(6, 9, cache.Back, api.ErrFlush) // Commit's
	r.at(1, -1, false)
	r.at(6, -1, false)
	r.states(slots.Live, slots.Stale, slots.Live)
	r.write(6, 9, cache.Through, api.OK) // the stale one is free now, and no other one goes
	r.at(6, 1, false)
	r.at(2, 2, false)
	r.states(slots.Live, slots.Live, slots.Live)
}

// P14.3
func TestABlockMayGoAheadOfItself(t *testing.T) {
	r := scrubbed(t, 0)
	for n := range 3 {
		r.write(n, n+1, cache.Through, api.OK)
	}
	r.write(0, 9, cache.Through, api.OK)
	r.at(0, 0, false)
	r.reads(0, block(9))
	r.ok(r.Commit())
	r.records(put(1, 0, 0, false, 1), put(2, 1, 1, false, 2), put(3, 2, 2, false, 3), drop(4, 0), put(5, 0, 0, false, 9))
}

// P14.3
func TestStaleSlotsAreCommittedFirst(t *testing.T) {
	r := scrubbed(t, 0)
	r.write(0, 1, cache.Back, api.OK)
	r.write(1, 2, cache.Through, api.OK)
	r.write(0, 3, cache.Back, api.OK)
	r.states(slots.Stale, slots.Live, slots.Live)
	r.write(4, 5, cache.Back, api.OK)
	r.at(1, 1, false) // it did not go
	r.at(4, 0, true)
	r.records(put(1, 0, 0, true, 1), put(2, 1, 1, false, 2), put(3, 0, 2, true, 3))
}

// nearly is a cache whose journal has room for one record, of 7 in it: block 0 is in slot 0.
func nearly(t *testing.T) *rig {
	t.Helper()
	r := scrubbed(t, 0)
	r.write(0, 1, cache.Back, api.OK)
	for range 6 {
		r.ok(r.Clean(0))
	}
	return r
}

// P14.3
func TestRoom(t *testing.T) {
	entry := forms.Entry{Block: 0, Slot: 0, Sum: sum(1)}
	for i, f := range []func(r *rig) api.Errno{
		func(r *rig) api.Errno { return r.Write(1, block(2), cache.Back) },
		func(r *rig) api.Errno { return r.Write(1, block(2), cache.Through) },
		func(r *rig) api.Errno { return r.Write(1, block(2), cache.Bypass) },
		func(r *rig) api.Errno { return r.Discard(1) },
		func(r *rig) api.Errno { return r.Drop(0) },
		func(r *rig) api.Errno { return r.Clean(0) },
		func(r *rig) api.Errno { _, e := r.Evict(1); return e },
	} {
		r := nearly(t)
		r.ok(f(r))
		r.checkpoint(1, 7, entry)
		r = nearly(t)
		r.ssd.Plan(dev.Fails)
		if e := f(r); e != api.ErrFlush {
			t.Error(i, int(e))
		}
		r.at(0, 0, false)
		r.at(1, -1, false)
		r.backing(1, nought, nought)
		if i < 2 {
			r.states(slots.Live, slots.Stale, slots.Free)
			r.owners(1)
		} else {
			r.states(slots.Live, slots.Free, slots.Free)
		}
	}
	r := scrubbed(t, 0)
	r.write(0, 1, cache.Back, api.OK)
	for range 5 {
		r.ok(r.Clean(0))
	}
	r.back.Plan(dev.Fails) // of a flush, but none is: there is room for two
	r.ok(r.Clean(0))
	r.write(9, 1, cache.Back, api.ErrRange)
	r.is(r.Drop(5), api.ErrNone)
	r.is(r.Clean(5), api.ErrNone)
	r.planned(0, 1)
	r.is(r.Clean(0), api.ErrFlush)
}

// P14.3, P14.4
func TestNoMoreRecords(t *testing.T) {
	r := scrubbed(t, api.MaxSeq-1)
	r.write(0, 1, cache.Through, api.OK)
	for i, e := range []api.Errno{r.Write(0, block(2), cache.Back), r.Drop(0), r.Clean(0)} {
		if e != api.ErrOver {
			t.Error(i, int(e))
		}
		r.at(0, 0, false)
	}
	r.states(slots.Live, slots.Stale, slots.Free)
	r.owners(1, 0)
	r.reads(0, block(1))
	r.write(3, 3, cache.Through, api.ErrOver)
	r.states(slots.Live, slots.Stale, slots.Stale)
	r.owners(2, 3)
	r.at(3, -1, false)
	r.reads(3, block(3))
	r.ok(r.Commit())
	r.states(slots.Live, slots.Free, slots.Free)
	r.write(0, 4, cache.Bypass, api.ErrOver)
	r.backing(0, block(4), block(1))
	r.reads(0, block(1))
	r.ssd.Plan(dev.Fails)
	r.write(0, 5, cache.Through, api.ErrOver) // what Drop tells
	r.states(slots.Live, slots.Bad, slots.Free)
	if n, e := r.Evict(1); n != 0 || e != api.ErrOver {
		t.Error(n, int(e))
	}
	r.at(0, 0, false)
	if n, e := r.Evict(1); n != 0 || e != api.OK {
		t.Error("it is in the clock no more", n, int(e))
	}
}

// P14.4
func TestDrop(t *testing.T) {
	r := scrubbed(t, 0)
	r.write(0, 1, cache.Back, api.OK)
	for _, n := range []int{-1, 8, most, least} {
		r.is(r.Drop(n), api.ErrRange)
		r.is(r.Clean(n), api.ErrRange)
	}
	r.is(r.Drop(1), api.ErrNone)
	r.is(r.Clean(1), api.ErrNone)
	r.ok(r.Drop(0))
	r.at(0, -1, false)
	r.states(slots.Stale, slots.Free, slots.Free)
	r.reads(0, nought)
	r.is(r.Drop(0), api.ErrNone)
	r.owners(0, 0)
	r.ok(r.Commit())
	r.records(put(1, 0, 0, true, 1), drop(2, 0))
}

// P14.4
func TestClean(t *testing.T) {
	r := scrubbed(t, 0)
	r.write(0, 1, cache.Back, api.OK)
	r.ok(r.Clean(0))
	r.at(0, 0, false)
	r.ok(r.Clean(0))
	r.reads(0, block(1))
	r.states(slots.Live, slots.Free, slots.Free)
	r.ok(r.Commit())
	r.records(put(1, 0, 0, true, 1), put(2, 0, 0, false, 1), put(3, 0, 0, false, 1))
}

// P14.4
func TestEvict(t *testing.T) {
	r := scrubbed(t, 0)
	r.write(0, 1, cache.Through, api.OK)
	r.write(1, 2, cache.Back, api.OK)
	r.write(2, 3, cache.Through, api.OK)
	for _, n := range []int{0, -1, least} {
		if got, e := r.Evict(n); got != 0 || e != api.OK {
			t.Error(n, got, int(e))
		}
	}
	if n, e := r.Evict(most); n != 2 || e != api.OK {
		t.Error(n, int(e))
	}
	r.at(0, -1, false)
	r.at(1, 1, true)
	r.at(2, -1, false)
	r.states(slots.Stale, slots.Live, slots.Stale)
	if n, e := r.Evict(1); n != 0 || e != api.OK {
		t.Error("none that may go", n, int(e))
	}
	r.ok(r.Commit())
	r.records(put(1, 0, 0, false, 1), put(2, 1, 1, true, 2), put(3, 2, 2, false, 3), drop(4, 0), drop(5, 2))
	r.reads(0, block(1))
}

// P14.4
func TestEvictTellsHowManyBesideAnError(t *testing.T) {
	r := scrubbed(t, 0)
	for n := range 3 {
		r.write(n, n, cache.Through, api.OK)
	}
	for range 3 {
		r.ok(r.Clean(2))
	}
	r.back.Plan(dev.Fails) // of the checkpoint that makes room for the second one
	if n, e := r.Evict(3); n != 1 || e != api.ErrFlush {
		t.Error(n, int(e))
	}
	r.at(0, -1, false)
	r.at(1, 1, false)
	r = nearly(t)
	r.back.Plan(dev.Fails)
	if n, e := r.Evict(0); n != 0 || e != api.OK {
		t.Error("of none no room is made", n, int(e))
	}
	r.planned(0, 1)
	if n, e := r.Evict(1); n != 0 || e != api.ErrFlush {
		t.Error(n, int(e))
	}
}

// P14.4
func TestClock(t *testing.T) {
	s := small()
	s.Slots = 4
	r := made(t, s, 0)
	goes := func(want int) {
		t.Helper()
		was := map[int]bool{}
		for b := range r.Places(api.Span{N: 8}) {
			was[b] = true
		}
		if n, e := r.Evict(1); n != 1 || e != api.OK {
			t.Error(n, int(e))
		}
		for b := range was {
			if _, in := r.Place(b); in == (b == want) {
				t.Error("block", b, "not", want)
			}
		}
		r.ok(r.Commit())
	}
	for n := range 3 {
		r.write(n, 1, cache.Through, api.OK)
	}
	r.write(0, 2, cache.Through, api.OK) // it is asked for
	r.ok(r.Commit())
	for range 3 {
		r.reads(1, block(1)) // which asks for nothing
	}
	goes(1)
	r.write(1, 3, cache.Through, api.OK) // a ghost, that is asked for at once
	r.ok(r.Commit())
	goes(2)
	goes(0)
	r.write(5, 1, cache.Through, api.OK)
	goes(5) // 1 is passed
	goes(1)
	for _, n := range []int{6, 7} {
		r.write(n, 1, cache.Through, api.OK)
	}
	r.ok(r.Drop(6)) // it is no ghost
	r.write(6, 1, cache.Through, api.OK)
	r.ok(r.Commit())
	goes(7)
	goes(6)
	r.write(3, 1, cache.Back, api.OK)
	r.write(4, 1, cache.Through, api.OK)
	goes(4) // 3 is dirty
	r.ok(r.Clean(3))
	goes(3)
}

// P14.3
func TestAnyStays(t *testing.T) {
	r := made(t, small(), 0)
	r.write(0, 1, cache.Back, api.OK)
	r.owners(0, ledger.Any)
}
