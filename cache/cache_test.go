package cache_test

import (
	"slices"
	"testing"

	"lavabo/api"
	"lavabo/cache"
	"lavabo/crc"
	"lavabo/dev"
	"lavabo/forms"
	"lavabo/index"
	"lavabo/journal"
	"lavabo/ledger"
	"lavabo/pages"
	"lavabo/slots"
)

const most, least = 1<<63 - 1, -1 << 63

// small is a superblock of 8 blocks and 3 slots: pages 1, journal 3 to 10,
// logs 11 to 16, slots 17 to 19.
func small() forms.Super {
	return forms.Super{ID: 7, Blocks: 8, Slots: 3, Journal: 8, Pages: 1, Logs: 2, Batch: 4}
}

// rig is a cache, and its devices.
type rig struct {
	*cache.Cache
	t         *testing.T
	ssd, back *dev.Device
}

func devices(t *testing.T, s forms.Super) (ssd, back *dev.Device) {
	t.Helper()
	l, e := cache.Plan(s)
	if e != api.OK {
		t.Fatal("Plan", int(e))
	}
	ssd, e = dev.New(l.Size)
	if e != api.OK {
		t.Fatal(int(e))
	}
	back, e = dev.New(s.Blocks)
	if e != api.OK {
		t.Fatal(int(e))
	}
	return ssd, back
}

func made(t *testing.T, s forms.Super, seq int, l ...forms.Entry) *rig {
	t.Helper()
	ssd, back := devices(t, s)
	c, e := cache.New(s, ssd, back, 0, seq, l...)
	if c == nil || e != api.OK {
		t.Fatal("no cache", int(e))
	}
	return &rig{Cache: c, t: t, ssd: ssd, back: back}
}

func block(n int) api.Block { return api.Block{byte(n), 1, 63: byte(n >> 8)} }

func sum(n int) int { b := block(n); return crc.Sum(b[:]) }

// write tells if a write answers otherwise.
func (r *rig) write(n, x, mode int, want api.Errno) {
	r.t.Helper()
	if e := r.Write(n, block(x), mode); e != want {
		r.t.Errorf("Write %d: %d, not %d", n, int(e), int(want))
	}
}

// ok tells if an error was told.
func (r *rig) ok(e api.Errno) {
	r.t.Helper()
	if e != api.OK {
		r.t.Errorf("error %d", int(e))
	}
}

// is tells if another error was told.
func (r *rig) is(e, want api.Errno) {
	r.t.Helper()
	if e != want {
		r.t.Errorf("error %d, not %d", int(e), int(want))
	}
}

// reads tells if a block reads otherwise.
func (r *rig) reads(n int, want api.Block) {
	r.t.Helper()
	if b, e := r.Read(n); b != want || e != api.OK {
		r.t.Errorf("block %d reads %d %d, not %d", n, b[0], int(e), want[0])
	}
}

// at tells if a block is elsewhere; slot -1: in no slot.
func (r *rig) at(n, slot int, dirty bool) {
	r.t.Helper()
	p, in := r.Place(n)
	if in != (slot >= 0) || in && p != (index.Place{Slot: slot, Dirty: dirty}) || !in && p != (index.Place{}) {
		r.t.Errorf("block %d is at %v %v", n, p, in)
	}
}

// states tells if slots have other states.
func (r *rig) states(want ...int) {
	r.t.Helper()
	var counts [5]int
	for slot, state := range want {
		counts[state]++
		if got, e := r.State(slot); got != state || e != api.OK {
			r.t.Errorf("slot %d is %d, not %d", slot, got, state)
		}
	}
	for state, n := range counts {
		if r.Count(state) != n {
			r.t.Errorf("%d slots of %d", r.Count(state), state)
		}
	}
}

// owners tells if a slot has other owners.
func (r *rig) owners(slot int, want ...int) {
	r.t.Helper()
	if l, e := r.Ledger().Owners(slot); !slices.Equal(l, want) || e != api.OK {
		r.t.Errorf("slot %d has owners %v, not %v", slot, l, want)
	}
}

// slot tells if a slot's sector has other bytes.
func (r *rig) slot(slot int, want api.Block) {
	r.t.Helper()
	if b, e := r.ssd.Copy().Read(r.Layout().Slots + slot); b != want || e != api.OK {
		r.t.Errorf("slot %d has %v", slot, b)
	}
}

// backing tells if a sector of the backing device has other bytes, or is not as firm as that.
func (r *rig) backing(n int, want, firm api.Block) {
	r.t.Helper()
	b, _ := r.back.Copy().Read(n)
	if f, _ := r.back.Firm(n); b != want || f != firm {
		r.t.Errorf("backing sector %d has %d, firm %d", n, b[0], f[0])
	}
}

// records tells if others are firm.
func (r *rig) records(want ...forms.Record) {
	r.t.Helper()
	d, _ := r.ssd.Crash()
	l, e := journal.Scan(d, r.Layout().Journal, r.Super().Journal)
	if !slices.Equal(l, want) || e != api.OK {
		r.t.Errorf("records %+v, not %+v", l, want)
	}
}

// planned tells if other numbers of fates are left.
func (r *rig) planned(ssd, back int) {
	r.t.Helper()
	if r.ssd.Planned() != ssd || r.back.Planned() != back {
		r.t.Errorf("fates are left: %d, %d, not %d, %d", r.ssd.Planned(), r.back.Planned(), ssd, back)
	}
}

// checkpoint tells if another one is the newest that is firm.
func (r *rig) checkpoint(which, seq int, want ...forms.Entry) {
	r.t.Helper()
	d, _ := r.ssd.Crash()
	w, s, l, e := pages.Newest(d, r.Layout().Pages, r.Super().Pages)
	if w != which || s != seq || !slices.Equal(l, want) || e != api.OK {
		r.t.Errorf("checkpoint %d of %d: %v %d", w, s, l, int(e))
	}
}

var nought api.Block

// P14.1
func TestPlan(t *testing.T) {
	l, e := cache.Plan(small())
	if want := (cache.Layout{Pages: 1, Journal: 3, Intents: 11, Certs: 13, Failures: 15, Slots: 17, Size: 20}); l != want || e != api.OK {
		t.Error(l, int(e))
	}
	l, e = cache.Plan(forms.Super{ID: -5, Blocks: 4096, Slots: 1024, Journal: 1024, Pages: 256, Logs: 500, Batch: 64})
	if want := (cache.Layout{Pages: 1, Journal: 513, Intents: 1537, Certs: 2037, Failures: 2537, Slots: 3037, Size: 4061}); l != want || e != api.OK {
		t.Error("what may be at most", l, int(e))
	}
	l, e = cache.Plan(forms.Super{Blocks: 1, Slots: 5, Journal: 4, Pages: 2, Logs: 1, Batch: 1})
	if want := (cache.Layout{Pages: 1, Journal: 5, Intents: 9, Certs: 10, Failures: 11, Slots: 12, Size: 17}); l != want || e != api.OK {
		t.Error("what may be at least", l, int(e))
	}
	if l, e = cache.Plan(forms.Super{Blocks: 1, Slots: 3, Journal: 4, Pages: 1, Logs: 1024, Batch: 1}); l.Size != 3+4+3072+3 || e != api.OK {
		t.Error("as many logs as may be", l, int(e))
	}
	if l, e = cache.Plan(forms.Super{Blocks: 1, Slots: 4, Journal: 4, Pages: 2042, Logs: 1, Batch: 1}); l.Size != 4096 || e != api.OK {
		t.Error("as many sectors as may be", l, int(e))
	}
	for i, turn := range []func(s *forms.Super){
		func(s *forms.Super) { s.Blocks = 0 },
		func(s *forms.Super) { s.Blocks = 4097 },
		func(s *forms.Super) { s.Slots = 0 },
		func(s *forms.Super) { s.Slots = 5 }, // for which one page is too few
		func(s *forms.Super) { s.Slots, s.Pages = 1025, 300 },
		func(s *forms.Super) { s.Journal = 3 },
		func(s *forms.Super) { s.Journal = 1025 },
		func(s *forms.Super) { s.Logs = 0 },
		func(s *forms.Super) { s.Logs = 1025 },
		func(s *forms.Super) { s.Batch = 0 },
		func(s *forms.Super) { s.Batch = 65 },
		func(s *forms.Super) { s.Pages = 0 },
		func(s *forms.Super) { s.Pages = -1 },
		func(s *forms.Super) { s.Pages = most },
		func(s *forms.Super) { s.Pages = least },
		func(s *forms.Super) { s.Slots, s.Pages, s.Logs, s.Journal = 4, 2043, 1, 4 }, // a sector too many, and one more
	} {
		s := small()
		turn(&s)
		if l, e := cache.Plan(s); l != (cache.Layout{}) || e != api.ErrSize {
			t.Error(i, l, int(e))
		}
	}
}

// P14.1
func TestNewRefuses(t *testing.T) {
	s := small()
	ssd, back := devices(t, s)
	more, _ := dev.New(ssd.Size() + 1)
	less, _ := dev.New(back.Size() - 1)
	wrong := s
	wrong.Journal = 3
	bad := forms.Entry{Block: 99}
	good := forms.Entry{Block: 5, Slot: 1}
	for i, c := range []struct {
		s          forms.Super
		ssd, back  *dev.Device
		which, seq int
		l          []forms.Entry
		want       api.Errno
	}{
		{wrong, nil, back, 2, -1, nil, api.ErrNil},
		{wrong, ssd, nil, 2, -1, nil, api.ErrNil},
		{wrong, ssd, back, 2, -1, nil, api.ErrSize},
		{s, more, back, 2, -1, nil, api.ErrSize},
		{s, ssd, less, 2, -1, nil, api.ErrSize},
		{s, back, ssd, 2, -1, nil, api.ErrSize},
		{s, ssd, back, 2, -1, nil, api.ErrArg},
		{s, ssd, back, -1, 0, nil, api.ErrArg},
		{s, ssd, back, 1, -1, []forms.Entry{bad}, api.ErrOver},
		{s, ssd, back, 0, api.MaxSeq, nil, api.ErrOver},
		{s, ssd, back, 0, 0, []forms.Entry{good, bad}, api.ErrForm},
		{s, ssd, back, 0, 0, []forms.Entry{{Block: -1}}, api.ErrForm},
		{s, ssd, back, 0, 0, []forms.Entry{{Block: 8}}, api.ErrForm},
		{s, ssd, back, 0, 0, []forms.Entry{{Slot: -1}}, api.ErrForm},
		{s, ssd, back, 0, 0, []forms.Entry{{Slot: 3}}, api.ErrForm},
		{s, ssd, back, 0, 0, []forms.Entry{good, {Block: 5, Slot: 2}}, api.ErrForm},
		{s, ssd, back, 0, 0, []forms.Entry{good, {Block: 6, Slot: 1}}, api.ErrForm},
		{s, ssd, back, 0, 0, []forms.Entry{good, good}, api.ErrForm},
	} {
		ssd.Plan(dev.Fails)
		x, e := cache.New(c.s, c.ssd, c.back, c.which, c.seq, c.l...)
		if x != nil || e != c.want {
			t.Error(i, int(e))
		}
	}
	if ssd.Planned() != 18 || ssd.Open() != 0 {
		t.Error("devices were called")
	}
}

// P14.1
func TestNewHasEntriesInTheirSlots(t *testing.T) {
	l := []forms.Entry{{Block: 5, Slot: 2, Dirty: true, Sum: sum(3)}, {Block: 0, Slot: 0, Sum: -9}}
	r := made(t, small(), 40, l...)
	r.at(5, 2, true)
	r.at(0, 0, false)
	r.at(1, -1, false)
	r.states(slots.Live, slots.Free, slots.Live)
	r.owners(0, 0)
	r.owners(1, ledger.Any)
	r.owners(2, 5)
	r.ssd.Write(r.Layout().Slots+2, block(3))
	r.reads(5, block(3))
	if b, e := r.Read(0); b != nought || e != api.ErrSum {
		t.Error("a sum that is none", int(e))
	}
	ssd, back := r.Devices()
	if ssd != r.ssd || back != r.back || r.Super() != small() || r.Layout().Size != 20 {
		t.Error("Super, Layout, Devices")
	}
	r.ok(r.Drop(5)) // the first record behind 40
	r.ok(r.Commit())
	r.records(forms.Record{Seq: 41, Lap: 5, Op: journal.Drop, Block: 5})
	for which := range 2 {
		ssd, back := devices(t, small())
		c, _ := cache.New(small(), ssd, back, which, 9)
		x := rig{Cache: c, t: t, ssd: ssd, back: back}
		x.ok(x.Checkpoint())
		x.checkpoint(1-which, 9)
	}
}

// P14.1
func TestEntriesComeIntoTheClockInTheirOrder(t *testing.T) {
	r := made(t, small(), 0, forms.Entry{Block: 5, Slot: 2}, forms.Entry{Block: 1, Slot: 0}, forms.Entry{Block: 3, Slot: 1})
	for _, b := range []int{5, 1, 3} {
		r.at(b, map[int]int{5: 2, 1: 0, 3: 1}[b], false)
		if n, e := r.Evict(1); n != 1 || e != api.OK {
			t.Error(n, int(e))
		}
		r.at(b, -1, false)
	}
}

// P14.2
func TestRead(t *testing.T) {
	r := made(t, small(), 0)
	r.back.Write(4, block(9))
	r.reads(4, block(9))
	r.back.Plan(dev.Fails)
	if b, e := r.Read(4); b != nought || e != api.ErrRead {
		t.Error("the backing device's error", int(e))
	}
	r.write(4, 10, cache.Back, api.OK)
	r.reads(4, block(10))
	r.backing(4, block(9), nought)
	r.ssd.Plan(dev.Fails)
	if b, e := r.Read(4); b != nought || e != api.ErrRead {
		t.Error("the device's error", int(e))
	}
	r.ssd.Write(r.Layout().Slots, block(11))
	if b, e := r.Read(4); b != nought || e != api.ErrSum {
		t.Error("another sum", int(e))
	}
	for _, n := range []int{-1, 8, most, least} {
		if b, e := r.Read(n); b != nought || e != api.ErrRange {
			t.Error(n, int(e))
		}
		r.at(n, -1, false)
	}
}

// P14.2
func TestPlacesAndLedger(t *testing.T) {
	r := made(t, small(), 0)
	r.write(6, 1, cache.Back, api.OK)
	r.write(2, 2, cache.Through, api.OK)
	places := r.Places(api.Span{From: 0, N: 8})
	r.ok(r.Drop(6))
	var l []int
	for b, p := range places {
		l = append(l, b, p.Slot)
		if p.Dirty != (b == 6) {
			t.Error(b, p)
		}
	}
	if !slices.Equal(l, []int{2, 1, 6, 0}) {
		t.Error(l)
	}
	for b := range r.Places(api.Span{From: 3, N: 5}) {
		t.Error(b)
	}
	for _, slot := range []int{-1, 3, most} {
		if n, e := r.State(slot); n != 0 || e != api.ErrRange || r.Scrubbed(slot) != api.ErrRange {
			t.Error(slot, int(e))
		}
	}
	if r.Count(-1) != 0 || r.Count(5) != 0 {
		t.Error("no state")
	}
	r.Ledger().Scrub(0) // of a copy
	r.owners(0, ledger.Any)
	r.ok(r.Scrubbed(0))
	r.owners(0)
	r.owners(1, ledger.Any)
}

// P14.1 to P14.5
func TestNil(t *testing.T) {
	var c *cache.Cache
	b, e := c.Read(0)
	n, f := c.Evict(1)
	s, g := c.State(0)
	l, h := c.Wipe()
	for i, e := range []api.Errno{e, f, g, h, c.Write(-1, nought, 9), c.Discard(0), c.Drop(0), c.Clean(0), c.Commit(), c.Checkpoint(), c.Scrubbed(0)} {
		if e != api.ErrNil {
			t.Error(i, int(e))
		}
	}
	if b != nought || n != 0 || s != 0 || len(l) != 0 || c.Count(slots.Free) != 0 || c.Ledger() != nil {
		t.Error("answers of nil")
	}
	ssd, back := c.Devices()
	p, in := c.Place(0)
	if ssd != nil || back != nil || p != (index.Place{}) || in || c.Super() != (forms.Super{}) || c.Layout() != (cache.Layout{}) {
		t.Error("more answers of nil")
	}
	for b := range c.Places(api.Span{N: 8}) {
		t.Error(b)
	}
	if l, e := cache.Overwrite(nil, 1); len(l) != 0 || e != api.ErrNil {
		t.Error("Overwrite", int(e))
	}
}
