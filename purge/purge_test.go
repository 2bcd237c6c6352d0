package purge_test

import (
	"bytes"
	"slices"
	"testing"

	"lavabo/api"
	"lavabo/cache"
	"lavabo/crc"
	"lavabo/dev"
	"lavabo/forms"
	"lavabo/ledger"
	"lavabo/logs"
	"lavabo/purge"
	"lavabo/slots"
)

const most, least = 1<<63 - 1, -1 << 63

// rig is a cache of 8 blocks and 4 slots, with batches of 2: its journal is
// the sectors 3 to 7, intents 8 to 10, certificates 11 to 13, failures 14 to
// 16, slots 17 to 20.
type rig struct {
	*cache.Cache
	l         logs.Logs
	t         *testing.T
	ssd, back *dev.Device
}

func super() forms.Super {
	return forms.Super{Blocks: 8, Slots: 4, Journal: 5, Pages: 1, Logs: 3, Batch: 2}
}

func made(t *testing.T, s forms.Super) *rig {
	t.Helper()
	p, e := cache.Plan(s)
	if e != api.OK {
		t.Fatal(int(e))
	}
	ssd, _ := dev.New(p.Size)
	back, _ := dev.New(s.Blocks)
	c, e := cache.New(s, ssd, back, 0, 0)
	if e != api.OK {
		t.Fatal(int(e))
	}
	l, e := logs.Open(c)
	if e != api.OK {
		t.Fatal(int(e))
	}
	return &rig{Cache: c, l: l, t: t, ssd: ssd, back: back}
}

// scrubbed is one whose slots have no owners.
func scrubbed(t *testing.T, s forms.Super) *rig {
	t.Helper()
	r := made(t, s)
	for slot := range s.Slots {
		r.ok(r.Scrubbed(slot))
	}
	return r
}

func block(n int) api.Block { return api.Block{byte(n), 100, 63: byte(n)} }

func (r *rig) ok(e api.Errno) { r.t.Helper(); r.is(e, api.OK) }

func (r *rig) is(e, want api.Errno) {
	r.t.Helper()
	if e != want {
		r.t.Errorf("error %d, not %d", int(e), int(want))
	}
}

func (r *rig) write(n, mode int) {
	r.t.Helper()
	r.ok(r.Write(n, block(n+1), mode))
}

func (r *rig) begin(id, from, n int) *purge.Purge {
	r.t.Helper()
	p, e := purge.Begin(r.Cache, r.l, id, api.Span{From: from, N: n})
	if p == nil || e != api.OK {
		r.t.Fatalf("no purge: %d", int(e))
	}
	return p
}

// tick tells if a tick answers otherwise.
func (r *rig) tick(p *purge.Purge, state int, want api.Errno) {
	r.t.Helper()
	got, e := p.Tick()
	if got != state || e != want || p.State() != state {
		r.t.Errorf("Tick: %d %d, not %d %d", got, int(e), state, int(want))
	}
	if b := p.Bad(); (state == purge.Failed) != (len(b) > 0) {
		r.t.Errorf("Bad: %v", b)
	}
}

// places tells if a span has others.
func (r *rig) places(from, n int, back, ssd []int) {
	r.t.Helper()
	b, s := purge.Places(r.Cache, api.Span{From: from, N: n})
	if !slices.Equal(b, back) || !slices.Equal(s, ssd) {
		r.t.Errorf("places of %d %d: %v %v, not %v %v", from, n, b, s, back, ssd)
	}
}

func (r *rig) owners(slot int, want ...int) {
	r.t.Helper()
	if l, _ := r.Ledger().Owners(slot); !slices.Equal(l, want) {
		r.t.Errorf("slot %d has owners %v, not %v", slot, l, want)
	}
}

// planned tells if other numbers of fates are left, and takes them.
func (r *rig) planned(ssd, back int) {
	r.t.Helper()
	if r.ssd.Planned() != ssd || r.back.Planned() != back {
		r.t.Errorf("fates are left: %d, %d, not %d, %d", r.ssd.Planned(), r.back.Planned(), ssd, back)
	}
	for r.ssd.Planned() > 0 {
		r.ssd.Read(0)
	}
	for r.back.Planned() > 0 {
		r.back.Read(0)
	}
}

// goes is so many calls that go, and then one that fails.
func goes(n int) []int { return append(make([]int, n), dev.Fails) }

// hangs tells if a sector of a device has what a block was, or its sum.
func (r *rig) hangs(d *dev.Device, blocks ...api.Block) {
	r.t.Helper()
	if d.Open() != 0 {
		r.t.Error("writes are open:", d.Open())
	}
	for s := range d.Size() {
		b, _ := d.Firm(s)
		for _, x := range blocks {
			sum := crc.Sum(x[:])
			if b == x || bytes.Contains(b[:60], []byte{byte(sum), byte(sum >> 8), byte(sum >> 16), byte(sum >> 24)}) {
				r.t.Errorf("sector %d of %d hangs on block %d", s, d.Size(), x[0]-1)
			}
		}
	}
}

// P18.1
func TestBeginRefuses(t *testing.T) {
	r := made(t, super())
	r.ssd.Plan(dev.Fails)
	x := forms.Intent{ID: 9, Span: api.Span{From: 8, N: 1}}
	for i, l := range []logs.Logs{{}, {Certs: r.l.Certs, Failures: r.l.Failures}, {Intents: r.l.Intents, Failures: r.l.Failures}, {Intents: r.l.Intents, Certs: r.l.Certs}, r.l} {
		c := r.Cache
		if i == 4 {
			c = nil
		}
		p, e := purge.Begin(c, l, -1, api.Span{})
		q, f := purge.Resume(c, l, x)
		if p != nil || q != nil || e != api.ErrNil || f != api.ErrNil {
			t.Error(i, int(e), int(f))
		}
	}
	for _, s := range []api.Span{{From: 0, N: 0}, {From: 8, N: 1}, {From: -1, N: 2}, {From: 0, N: 9}, {From: 7, N: 2}, {From: 3, N: -1}, {From: most, N: 1}, {From: 1, N: most}, {From: most, N: most}, {From: least, N: least}} {
		p, e := purge.Begin(r.Cache, r.l, -1, s)
		q, f := purge.Resume(r.Cache, r.l, forms.Intent{Span: s})
		if p != nil || q != nil || e != api.ErrRange || f != api.ErrRange {
			t.Error(s, int(e), int(f))
		}
		r.places(s.From, s.N, nil, nil)
	}
	r.planned(1, 0)
	for id, want := range map[int]api.Errno{-1: api.ErrRange, 3: api.ErrFull, least: api.ErrRange, most: api.ErrRange} {
		if p, e := purge.Begin(r.Cache, r.l, id, api.Span{N: 1}); p != nil || e != want {
			t.Error(id, int(e))
		}
	}
	if b, s := purge.Places(nil, api.Span{N: 1}); len(b)+len(s) != 0 {
		t.Error(b, s)
	}
}

// P18.1
func TestBegin(t *testing.T) {
	r := made(t, super())
	p := r.begin(1, 2, 3)
	want := forms.Intent{ID: 1, Seq: 1, Span: api.Span{From: 2, N: 3}}
	if x, e := r.l.Intents.Get(1); x != want || e != api.OK || p.Intent() != want || p.State() != purge.Going || len(p.Bad()) != 0 {
		t.Error(x, int(e))
	}
	if r.ssd.Open() != 0 {
		t.Error("it is not firm")
	}
	if _, e := purge.Begin(r.Cache, r.l, 1, api.Span{From: 2, N: 2}); e != api.ErrThere {
		t.Error("another one of that number", int(e))
	}
	r.begin(1, 2, 3) // the same again
	r.ssd.Plan(goes(3)...)
	r.begin(2, 2, 3)
	r.planned(1, 0) // it is read, written and flushed, and not asked for
	for i, c := range []struct {
		plan []int
		want api.Errno
	}{
		{[]int{dev.Fails}, api.ErrRead},
		{[]int{dev.Goes, dev.Fails}, api.ErrWrite},
		{[]int{dev.Goes, dev.Goes, dev.Fails, dev.Fails}, api.ErrFlush}, // and it is not to be got
		{[]int{dev.Goes, dev.Goes, dev.Fails}, api.OK},                  // it is there, though not firm
	} {
		r := made(t, super())
		r.ssd.Plan(c.plan...)
		p, e := purge.Begin(r.Cache, r.l, 0, api.Span{N: 1})
		if e != c.want || (p == nil) != (e != api.OK) || r.ssd.Planned() != 0 {
			t.Error(i, int(e))
		}
		if e == api.OK && (p.State() != purge.Going || r.ssd.Open() != 1) {
			t.Error(i, p.State())
		}
	}
	if purge.Going != 1 || purge.Done != 2 || purge.Failed != 3 {
		t.Error("states are numbered otherwise")
	}
}

// P18.1
func TestResume(t *testing.T) {
	r := made(t, super())
	x := forms.Intent{ID: 2, Seq: 77, Span: api.Span{From: 7, N: 1}}
	r.ssd.Plan(dev.Fails)
	p, e := purge.Resume(r.Cache, r.l, x)
	r.planned(1, 0) // the log is not asked
	if e != api.OK || p.Intent() != x || p.State() != purge.Going {
		t.Error(int(e))
	}
	for range 2 {
		r.tick(p, purge.Going, api.OK)
	}
	r.tick(p, purge.Done, api.OK)
	if got, e := r.l.Intents.Get(2); got != x || e != api.OK {
		t.Error("the intent is put again", got, int(e))
	}
	if got, e := r.l.Certs.Get(2); e != api.OK || got.Seq != 77 || got.Span != x.Span {
		t.Error(got, int(e))
	}
}

// P18.1
func TestPlaces(t *testing.T) {
	r := made(t, super())
	r.places(2, 3, []int{2, 3, 4}, []int{17, 18, 19, 20}) // nobody knows whose
	r = scrubbed(t, super())
	r.places(0, 8, []int{0, 1, 2, 3, 4, 5, 6, 7}, nil)
	r.write(3, cache.Back)
	r.places(3, 1, []int{3}, nil) // it is live
	r.write(5, cache.Back)
	r.write(3, cache.Through)
	r.places(3, 1, []int{3}, nil) // it is stale
	r.ok(r.Commit())
	r.places(3, 1, []int{3}, []int{17})
	r.places(2, 2, []int{2, 3}, []int{17})
	r.places(4, 4, []int{4, 5, 6, 7}, nil)
	r.ssd.Plan(dev.Fails)
	r.is(r.Write(6, block(9), cache.Back), api.ErrWrite) // in slot 0, that is bad now
	r.places(6, 1, []int{6}, []int{17})
	r.ssd.Plan(dev.Fails)
	r.is(r.Write(3, block(9), cache.Back), api.ErrWrite) // in slot 3
	r.places(3, 4, []int{3, 4, 5, 6}, []int{17, 20})
}

// P18.1, P18.2, P18.3
func TestNil(t *testing.T) {
	var p *purge.Purge
	if n, e := p.Tick(); n != 0 || e != api.ErrNil || p.State() != 0 || p.Intent() != (forms.Intent{}) || len(p.Bad()) != 0 {
		t.Error(n, int(e))
	}
}

// filled is a cache that has held the blocks 2 to 4 in many ways, and block 6.
func filled(t *testing.T) *rig {
	t.Helper()
	r := scrubbed(t, super())
	r.write(2, cache.Back)
	r.write(3, cache.Bypass)
	r.write(4, cache.Through)
	r.ok(r.Commit())
	r.write(2, cache.Through)
	r.write(6, cache.Back)
	r.ok(r.Checkpoint())
	return r
}

// P18.2, P18.4
func TestPurge(t *testing.T) {
	r := filled(t) // 2 was in slot 0, and is in 2; 4 is in 1, 6 in 3
	p := r.begin(0, 2, 3)
	r.tick(p, purge.Going, api.OK)
	for n := 2; n < 5; n++ {
		if _, in := r.Place(n); in {
			t.Error("block", n, "is in a slot")
		}
	}
	for s, gone := range []bool{2: true, 3: true, 4: false} {
		if b, _ := r.back.Firm(s); gone != (b == api.Block{} && s > 1) {
			t.Error("backing sector", s)
		}
	}
	r.tick(p, purge.Going, api.OK)
	r.owners(0, 2)
	r.tick(p, purge.Going, api.OK)
	r.owners(0)
	r.owners(1)
	r.owners(2, 2)
	if r.Count(slots.Free) != 3 {
		t.Error("they are free", r.Count(slots.Free))
	}
	r.tick(p, purge.Done, api.OK)
	r.owners(2)
	r.owners(3, 6)
	want := forms.Cert{ID: 0, Seq: 0, Span: api.Span{From: 2, N: 3}, Sectors: 3 + 3 + 5, Steps: 4}
	if x, e := r.l.Certs.Get(0); x != want || e != api.OK {
		t.Error(x, int(e))
	}
	if _, e := r.l.Failures.Get(0); e != api.ErrNone {
		t.Error(int(e))
	}
	r.hangs(r.ssd, block(3), block(4), block(5))
	r.hangs(r.back, block(3), block(4), block(5))
	if b, e := r.Read(6); b != block(7) || e != api.OK {
		t.Error("another block", b, int(e))
	}
	r.ssd.Plan(dev.Fails)
	r.back.Plan(dev.Fails)
	r.tick(p, purge.Done, api.OK) // it is not going any more
	r.planned(1, 1)
	if len(p.Bad()) != 0 {
		t.Error(p.Bad())
	}
}

// P18.4
func TestTicks(t *testing.T) {
	for _, c := range [][3]int{{64, 3, 1}, {1, 3, 3}, {2, 3, 2}, {3, 3, 1}, {2, 8, 4}, {64, 8, 1}, {1, 1, 1}} {
		s := super()
		s.Batch = c[0]
		r := scrubbed(t, s)
		p := r.begin(0, 0, c[1])
		for range c[2] - 1 {
			r.tick(p, purge.Going, api.OK)
		}
		r.tick(p, purge.Done, api.OK)
		if x, _ := r.l.Certs.Get(0); x.Steps != c[2] || x.Sectors != c[1]+5 {
			t.Error(c, x)
		}
	}
}

// P18.2
func TestTheIntentIsPutFirst(t *testing.T) {
	r := filled(t)
	p := r.begin(0, 2, 3)
	r.ssd.Plan(dev.Fails)
	r.back.Plan(dev.Fails)
	r.tick(p, purge.Going, api.ErrRead)
	r.planned(0, 1)
	r.ssd.Plan(goes(1)...)
	r.tick(p, purge.Going, api.ErrFlush)
	if _, in := r.Place(2); !in {
		t.Error("it was dropped")
	}
	r.ssd.Write(8, api.Block{}) // as if it had never been written
	r.ok(r.ssd.Flush())
	r.tick(p, purge.Going, api.OK)
	if x, e := r.l.Intents.Get(0); x != p.Intent() || e != api.OK {
		t.Error(x, int(e))
	}
}

// P18.2
func TestErrorsOfDrop(t *testing.T) {
	r := filled(t)
	for range 4 {
		r.ok(r.Clean(6))
	}
	p := r.begin(0, 2, 3)
	r.back.Plan(dev.Fails) // of the checkpoint that makes room
	r.tick(p, purge.Going, api.ErrFlush)
	for _, n := range []int{2, 4} {
		if _, in := r.Place(n); !in {
			t.Error("block", n, "was dropped")
		}
	}
	for range 3 {
		r.tick(p, purge.Going, api.OK)
	}
	r.tick(p, purge.Done, api.OK)
}

// P18.2
func TestTheLedgerIsToldOfSlotsAlone(t *testing.T) {
	s := super()
	s.Blocks = 40
	r := scrubbed(t, s)
	for n := range 4 {
		r.write(n, cache.Back)
	}
	p := r.begin(0, 17, 4) // backing sectors of the numbers that slots have on the other device
	r.tick(p, purge.Going, api.OK)
	r.tick(p, purge.Done, api.OK)
	for n := range 4 {
		r.owners(n, n)
	}
}

// P18.2
func TestErrorsOfCommit(t *testing.T) {
	r := filled(t)
	p := r.begin(0, 2, 3)
	r.back.Plan(dev.Fails)
	r.tick(p, purge.Going, api.ErrFlush)
	if _, in := r.Place(2); in {
		t.Error("it is dropped ahead of that")
	}
	if r.Count(slots.Stale) != 2 {
		t.Error("it was committed")
	}
	r.ssd.Plan(goes(2)...)
	r.tick(p, purge.Going, api.ErrFlush)
	r.planned(0, 0)
	// Places are taken at the first tick that comes so far.
	r.tick(p, purge.Going, api.OK)
	for range 2 {
		r.tick(p, purge.Going, api.OK)
	}
	r.tick(p, purge.Done, api.OK)
	r.hangs(r.ssd, block(3), block(4), block(5))
}

// P18.2
func TestBlocksOfTheSpanAreDroppedAtEachTick(t *testing.T) {
	r := filled(t)
	p := r.begin(0, 2, 3)
	r.tick(p, purge.Going, api.OK)
	r.write(2, cache.Back) // in slot 0
	r.write(5, cache.Back) // in slot 1
	r.tick(p, purge.Going, api.OK)
	if _, in := r.Place(2); in {
		t.Error("it is in a slot")
	}
	if _, in := r.Place(5); !in {
		t.Error("it is of no span")
	}
	r.tick(p, purge.Going, api.OK)
	r.owners(0)
	r.owners(1, 4, 5) // it was taken, and is not overwritten
	if b, e := r.Read(5); b != block(6) || e != api.OK {
		t.Error(b, int(e))
	}
	r.tick(p, purge.Done, api.OK)
	if x, _ := r.l.Certs.Get(0); x.Sectors != 11 || x.Steps != 4 {
		t.Error(x)
	}
}

// P18.2
func TestOverwriteIsCalledAlsoIfNoSlotIsLeft(t *testing.T) {
	s := super()
	s.Batch = 3
	r := scrubbed(t, s)
	r.write(2, cache.Back)
	p := r.begin(0, 2, 2)
	r.tick(p, purge.Going, api.OK)
	r.write(5, cache.Back) // in its slot
	// The intent is read and flushed, Commit flushes, writes and flushes, then comes Overwrite's flush.
	r.ssd.Plan(goes(5)...)
	r.tick(p, purge.Going, api.ErrFlush)
	r.planned(0, 0)
	r.owners(0, 2, 5)
	r.tick(p, purge.Done, api.OK)
	r.owners(0, 2, 5)
	if b, e := r.Read(5); b != block(6) || e != api.OK {
		t.Error(b, int(e))
	}
}

// P18.2, P18.3
func TestFailures(t *testing.T) {
	s := super()
	s.Batch = 64
	r := scrubbed(t, s)
	r.write(2, cache.Back)
	r.write(3, cache.Back)
	r.write(4, cache.Bypass)
	r.ok(r.Checkpoint()) // so that the records of the drops are in the sectors 5 and 6
	p := r.begin(1, 2, 3)
	r.back.Plan(dev.Goes, dev.Goes, dev.Fails, dev.Drops) // Commit's flush, then three writes
	r.tick(p, purge.Going, api.OK)
	r.planned(0, 0)
	plan := make([]int, 22)
	plan[3] = dev.Fails  // behind the intent and Commit: slot 0 is not written
	plan[16] = dev.Drops // behind slot 1, both checkpoints, and two sectors: the sector 5 is not nought
	plan[21] = dev.Fails // behind three more, a flush, and a sector: the sector 4 is not read
	r.ssd.Plan(plan...)
	r.tick(p, purge.Failed, api.OK)
	r.planned(0, 0)
	if got, want := p.Bad(), []int{3, 4, 8 + 4, 8 + 5, 8 + 17}; !slices.Equal(got, want) {
		t.Error(got, want)
	}
	bad := p.Bad()
	x, e := r.l.Failures.Get(1)
	if e != api.OK || x.ID != 1 || x.Seq != 1 || x.Span != (api.Span{From: 2, N: 3}) || x.Many != len(bad) || !slices.Equal(x.Sectors[:x.Many], bad) {
		t.Error(x, int(e))
	}
	if _, e := r.l.Certs.Get(1); e != api.ErrNone {
		t.Error(int(e))
	}
	r.owners(0, 2) // it was not overwritten
	r.owners(1)
	bad[0] = 99
	if p.Bad()[0] != 3 {
		t.Error("what is answered is not the caller's")
	}
	r.ssd.Plan(dev.Fails)
	r.tick(p, purge.Failed, api.OK)
	r.planned(1, 0)
}

// P18.2, P18.3
func TestMoreThanEightSectors(t *testing.T) {
	s := forms.Super{Blocks: 20, Slots: 2, Journal: 4, Pages: 1, Logs: 3, Batch: 64}
	r := scrubbed(t, s)
	p := r.begin(2, 5, 12)
	r.back.Plan(0, 1, 1, 1, 1, 1, 1, 0, 1, 1, 1, 1, 1) // block 11 is written
	r.tick(p, purge.Failed, api.OK)
	if got := p.Bad(); !slices.Equal(got, []int{5, 6, 7, 8, 9, 10, 12, 13, 14, 15, 16}) {
		t.Error(got)
	}
	x, e := r.l.Failures.Get(2)
	if e != api.OK || x.Many != 8 || x.Sectors != [8]int{5, 6, 7, 8, 9, 10, 12, 13} {
		t.Error(x, int(e))
	}
}

// P18.2
func TestWipe(t *testing.T) {
	s := super()
	s.Batch = 64
	begun := func() (*rig, *purge.Purge) {
		r := scrubbed(t, s)
		p := r.begin(0, 2, 3)
		return r, p
	}
	// The intent takes two calls, Commit one; a checkpoint three, twice; then five writes, a flush, five reads.
	for n, want := range map[int]api.Errno{3: api.ErrFlush, 4: api.ErrWrite, 5: api.ErrFlush, 6: api.ErrFlush, 7: api.ErrWrite, 14: api.ErrFlush} {
		r, p := begun()
		r.ssd.Plan(goes(n)...)
		r.tick(p, purge.Going, want)
		r.planned(0, 0)
		r.tick(p, purge.Done, api.OK) // Wipe comes again, the sweep does not
		if x, _ := r.l.Certs.Get(0); x.Steps != 1 || x.Sectors != 8 {
			t.Error(x)
		}
	}
	for n, sector := range map[int]int{9: 3, 13: 7, 15: 3, 19: 7} {
		r, p := begun()
		r.ssd.Plan(goes(n)...)
		r.tick(p, purge.Failed, api.OK)
		if got := p.Bad(); !slices.Equal(got, []int{8 + sector}) {
			t.Error(n, got)
		}
	}
	for n, want := range map[int]api.Errno{20: api.ErrRead, 21: api.ErrWrite, 22: api.ErrFlush} {
		r, p := begun()
		r.ssd.Plan(goes(n)...)
		r.tick(p, purge.Going, want)
		r.planned(0, 0)
		// The intent, Commit, and the certificate: to wipe comes no more.
		calls := 6
		if want == api.ErrFlush {
			calls = 5 // it is there, and not written again
		}
		r.ssd.Plan(goes(calls)...)
		r.tick(p, purge.Done, api.OK)
		r.planned(1, 0)
	}
}

// P18.2
func TestErrorsOfFailures(t *testing.T) {
	s := super()
	s.Batch = 64
	r := scrubbed(t, s)
	p := r.begin(0, 2, 1)
	r.back.Plan(goes(1)...)
	r.ssd.Plan(goes(21)...)
	r.tick(p, purge.Going, api.ErrWrite)
	r.planned(0, 0)
	if len(p.Bad()) != 0 {
		t.Error("it is going", p.Bad())
	}
	r.tick(p, purge.Failed, api.OK)
	if got := p.Bad(); !slices.Equal(got, []int{2}) {
		t.Error(got)
	}
}

// P18.2, P18.4
func TestAnyOneCallThatFails(t *testing.T) {
	for device := range 2 {
		for n := range 70 {
			r := filled(t)
			p := r.begin(0, 2, 3)
			d := r.ssd
			if device == 1 {
				d = r.back
			}
			d.Plan(goes(n)...)
			wrong := 0
			for p.State() == purge.Going && wrong < 3 {
				if _, e := p.Tick(); e != api.OK {
					wrong++
				}
			}
			r.planned(r.ssd.Planned(), r.back.Planned()) // if it took less calls
			bad := p.Bad()
			switch p.State() {
			case purge.Done:
				r.hangs(r.ssd, block(3), block(4), block(5))
				r.hangs(r.back, block(3), block(4), block(5))
				if x, e := r.l.Certs.Get(0); e != api.OK || x.Steps != 4 {
					t.Error(device, n, x, int(e))
				}
			case purge.Failed:
				if x, e := r.l.Failures.Get(0); len(bad) != 1 || e != api.OK || x.Sectors[0] != bad[0] || wrong != 0 {
					t.Error(device, n, bad, int(e))
				}
			default:
				t.Error(device, n, "it does not end")
			}
			if b, e := r.Read(6); b != block(7) || e != api.OK {
				t.Error(device, n, "another block", int(e))
			}
		}
	}
}

// P18.4
func TestNothingHangsOnWhatBlocksWere(t *testing.T) {
	for seed := range 40 {
		var last *rig
		for fill := range 3 {
			n := seed
			next := func(most int) int {
				n = (n*1103515245 + 12345) & (1<<31 - 1)
				return n >> 8 % most
			}
			r := scrubbed(t, super())
			for i := range 6 + next(12) {
				b, mode := next(8), next(3)
				x := block(50 + i)
				if b >= 2 && b < 5 {
					x = block(100 + i*3 + fill)
				}
				r.ok(r.Write(b, x, mode))
			}
			p := r.begin(0, 2, 3)
			for p.State() == purge.Going {
				_, e := p.Tick()
				r.ok(e)
			}
			if p.State() != purge.Done {
				t.Fatal(seed, p.State())
			}
			if last != nil && (!dev.Same(last.ssd, r.ssd) || !dev.Same(last.back, r.back)) {
				t.Fatal(seed, fill, "devices differ")
			}
			last = r
		}
	}
}

// P18.2
func TestSlotsOfAnyOwner(t *testing.T) {
	r := made(t, super())
	for slot := range 4 {
		r.owners(slot, ledger.Any)
		r.ssd.Write(17+slot, block(40+slot))
	}
	r.write(6, cache.Back)
	p := r.begin(0, 0, 1)
	for range 2 {
		r.tick(p, purge.Going, api.OK)
	}
	r.tick(p, purge.Done, api.OK)
	r.owners(0, ledger.Any) // it is live
	for slot := 1; slot < 4; slot++ {
		r.owners(slot)
	}
	r.hangs(r.ssd, block(41), block(42), block(43))
}
