package volume_test

import (
	"slices"
	"testing"

	"lavabo/api"
	"lavabo/attach"
	"lavabo/cache"
	"lavabo/dev"
	"lavabo/forms"
	"lavabo/purge"
	"lavabo/volume"
	"lavabo/writeback"
)

const most, least = 1<<63 - 1, -1 << 63

// super is a superblock of 10 blocks: journal 3 to 8, intents 9 to 11,
// certificates 12 to 14, failures 15 to 17, slots 18 to 21.
func super() forms.Super {
	return forms.Super{Blocks: 10, Slots: 4, Journal: 6, Pages: 1, Logs: 3, Batch: 2}
}

func policy() writeback.Policy { return writeback.Policy{High: 2, Low: 1, Batch: 2} }

// rig is a volume, and its devices.
type rig struct {
	*volume.Volume
	t         *testing.T
	ssd, back *dev.Device
}

func formatted(t *testing.T) (ssd, back *dev.Device) {
	t.Helper()
	ssd, _ = dev.New(22)
	back, _ = dev.New(10)
	if e := attach.Format(super(), ssd, back); e != api.OK {
		t.Fatal(int(e))
	}
	return ssd, back
}

func opened(t *testing.T, ssd, back *dev.Device) *rig {
	t.Helper()
	v, e := volume.Open(ssd, back, policy())
	if v == nil || e != api.OK {
		t.Fatal("no volume", int(e))
	}
	return &rig{Volume: v, t: t, ssd: ssd, back: back}
}

func made(t *testing.T) *rig {
	t.Helper()
	ssd, back := formatted(t)
	return opened(t, ssd, back)
}

func block(n int) api.Block { return api.Block{byte(n), 3, 63: byte(n >> 8)} }

var nought api.Block

func span(from, n int) api.Span { return api.Span{From: from, N: n} }

func (r *rig) is(e, want api.Errno) {
	r.t.Helper()
	if e != want {
		r.t.Errorf("error %d, not %d", int(e), int(want))
	}
}

func (r *rig) ok(e api.Errno) { r.t.Helper(); r.is(e, api.OK) }

// reads tells if a span reads otherwise.
func (r *rig) reads(from int, want ...api.Block) {
	r.t.Helper()
	if l, e := r.Read(span(from, len(want))); !slices.Equal(l, want) || e != api.OK {
		r.t.Errorf("%d %d reads %v, %d", from, len(want), l, int(e))
	}
}

// polls tells if a purge has another state.
func (r *rig) polls(id, state int, want api.Errno) {
	r.t.Helper()
	if n, e := r.Poll(id); n != state || e != want {
		r.t.Errorf("Poll %d: %d %d, not %d %d", id, n, int(e), state, int(want))
	}
}

// purges tells if a purge has another number.
func (r *rig) purges(from, n, id int, want api.Errno) {
	r.t.Helper()
	if got, e := r.Purge(span(from, n)); got != id || e != want {
		r.t.Errorf("Purge %d %d: %d %d, not %d %d", from, n, got, int(e), id, int(want))
	}
}

// goes is so many calls that go, and then one that fails.
func goes(n int) []int { return append(make([]int, n), dev.Fails) }

// wrong are spans that may not be.
var wrong = []api.Span{{From: 0, N: 0}, {From: 10, N: 1}, {From: -1, N: 2}, {From: 0, N: 11}, {From: 9, N: 2}, {From: 3, N: -1}, {From: most, N: 1}, {From: 1, N: most}, {From: most, N: most}, {From: least, N: least}}

// P20.1
func TestStatus(t *testing.T) {
	if volume.Fine != 0 || volume.Invalid != 1 || volume.Fault != 2 || volume.Busy != 3 || volume.NoSpace != 4 || volume.Missing != 5 || volume.Closed != 6 {
		t.Error("statuses are numbered otherwise")
	}
	want := map[api.Errno]int{
		0: volume.Fine, 1: volume.Invalid, 10: volume.Invalid, 24: volume.Invalid, 12: volume.Invalid, 22: volume.Invalid, 23: volume.Invalid, 11: volume.Invalid,
		19: volume.Fault, 20: volume.Fault, 21: volume.Fault, 13: volume.Fault, 18: volume.Busy, 17: volume.NoSpace, 14: volume.Missing, 15: volume.Missing,
	}
	for e := api.Errno(-3); e < 40; e++ {
		s, known := want[e]
		if !known {
			s = volume.Closed
		}
		if got := volume.Status(e); got != s {
			t.Error(int(e), got)
		}
	}
}

// P20.1
func TestOpenRefuses(t *testing.T) {
	refused := func(ssd, back *dev.Device, p writeback.Policy, want api.Errno) {
		t.Helper()
		if v, e := volume.Open(ssd, back, p); v != nil || e != want {
			t.Errorf("error %d, not %d", int(e), int(want))
		}
	}
	ssd, back := formatted(t)
	refused(nil, back, writeback.Policy{}, api.ErrNil)
	refused(back, ssd, writeback.Policy{}, api.ErrSum)
	small, _ := dev.New(9)
	refused(ssd, small, policy(), api.ErrMatch)
	before := ssd.Copy()
	for _, p := range []writeback.Policy{{}, {High: 5, Low: 1, Batch: 1}, {High: 1, Low: 2, Batch: 1}, {High: 2, Low: 1, Batch: 65}} {
		refused(ssd, back, p, api.ErrArg)
	}
	if dev.Same(before, ssd) {
		t.Error("what Attach has written stays")
	}
	for _, c := range []struct {
		spans []api.Span
		want  api.Errno
	}{
		{[]api.Span{span(0, 3), span(2, 1)}, api.ErrBusy},
		{[]api.Span{span(0, 3), span(9, 2)}, api.ErrRange}, // a block that is not there
		{[]api.Span{span(0, 3), span(3, 1), span(4, 6)}, api.OK},
	} {
		ssd, back := formatted(t)
		for id, s := range c.spans {
			b, e := forms.PutIntent(forms.Intent{ID: id, Span: s})
			if e != api.OK || ssd.Write(9+id, b) != api.OK {
				t.Fatal(int(e))
			}
		}
		if v, e := volume.Open(ssd, back, policy()); e != c.want || (v == nil) != (e != api.OK) || v.Stats().Going != len(c.spans) && v != nil {
			t.Error(c, int(e))
		}
	}
}

// P20.1
func TestOpenResumesWhatWaits(t *testing.T) {
	r := made(t)
	r.ok(r.Write(4, true, block(1), block(2)))
	r.purges(5, 1, 0, api.OK)
	r.purges(2, 3, 1, api.OK)
	r = opened(t, r.ssd, r.back)
	r.polls(0, purge.Going, api.OK)
	r.polls(1, purge.Going, api.OK)
	r.reads(4, nought, nought)
	r.is(r.Write(2, false, block(1)), api.ErrBusy)
	for range 20 {
		r.ok(r.Tick())
	}
	r.polls(0, purge.Done, api.OK)
	r.polls(1, purge.Done, api.OK)
	r.ok(r.Write(2, false, block(1)))
	r = opened(t, r.ssd, r.back)
	if r.Stats().Going != 0 {
		t.Error("they are done")
	}
	r.polls(1, purge.Done, api.OK) // there is a certificate
}

// commands are all that answer an error; each tells how much it answers beside it.
func commands(v *volume.Volume) []func() (int, api.Errno) {
	none := func(e api.Errno) (int, api.Errno) { return 0, e }
	return []func() (int, api.Errno){
		func() (int, api.Errno) { l, e := v.Read(span(99, 1)); return len(l), e },
		func() (int, api.Errno) { return none(v.Write(99, true)) },
		func() (int, api.Errno) { return none(v.Discard(span(99, 1))) },
		func() (int, api.Errno) { return none(v.Flush()) },
		func() (int, api.Errno) { return v.Purge(span(99, 1)) },
		func() (int, api.Errno) { return v.Poll(99) },
		func() (int, api.Errno) { return none(v.Tick()) },
		func() (int, api.Errno) { l, e := v.Certs(); return len(l), e },
		func() (int, api.Errno) { l, e := v.Failures(); return len(l), e },
		func() (int, api.Errno) { return none(v.Mode(99)) },
		func() (int, api.Errno) { return none(v.Detach()) },
	}
}

// P20.1
func TestNilAndDetached(t *testing.T) {
	for i, f := range commands(nil) {
		if n, e := f(); n != 0 || e != api.ErrNil {
			t.Error(i, n, int(e))
		}
	}
	var v *volume.Volume
	if v.Stats() != (volume.Stats{}) || v.Blocks() != 0 {
		t.Error("answers of nil")
	}
	r := made(t)
	r.ok(r.Write(3, false, block(1)))
	r.ok(r.Detach())
	r.ssd.Plan(dev.Fails)
	r.back.Plan(dev.Fails)
	for i, f := range commands(r.Volume) {
		if n, e := f(); n != 0 || e != api.ErrState {
			t.Error(i, n, int(e))
		}
	}
	if s := r.Stats(); s != (volume.Stats{Cached: 1, Free: 3}) || r.Blocks() != 10 {
		t.Error(s)
	}
	if r.ssd.Planned() != 1 || r.back.Planned() != 1 {
		t.Error("devices were called")
	}
}

// P20.2
func TestRead(t *testing.T) {
	r := made(t)
	r.ok(r.Write(2, false, block(1), block(2)))
	r.back.Write(7, block(3))
	r.reads(1, nought, block(1), block(2), nought)
	r.reads(7, block(3))
	for _, s := range wrong {
		if l, e := r.Read(s); len(l) != 0 || e != api.ErrRange {
			t.Error(s, int(e))
		}
	}
	r.back.Plan(goes(1)...)
	if l, e := r.Read(span(7, 3)); len(l) != 0 || e != api.ErrRead {
		t.Error(l, int(e))
	}
	r.ssd.Plan(dev.Fails)
	if l, e := r.Read(span(0, 4)); len(l) != 0 || e != api.ErrRead {
		t.Error(l, int(e))
	}
	r.purges(2, 1, 0, api.OK)
	r.ssd.Plan(goes(1)...)
	r.reads(2, nought, block(2)) // of what is locked no device is asked
	if r.ssd.Planned() != 1 {
		t.Error(r.ssd.Planned())
	}
}

// P20.2
func TestWrite(t *testing.T) {
	r := made(t)
	r.is(r.Write(99, true), api.ErrArg)
	for _, from := range []int{-1, 10, 9, most, least} {
		r.is(r.Write(from, true, block(1), block(2)), api.ErrRange)
	}
	r.is(r.Write(0, true, make([]api.Block, 11)...), api.ErrRange)
	if r.ssd.Open() != 0 || r.Stats().Cached != 0 {
		t.Error("something was written")
	}
	l := []api.Block{block(1), block(2)}
	r.ok(r.Write(8, false, l...))
	l[0] = block(9)
	r.reads(8, block(1), block(2))
	if s := r.Stats(); s != (volume.Stats{Cached: 2, Dirty: 2, Free: 2}) || r.ssd.Open() != 2 {
		t.Error(s, "it was flushed")
	}
	r.ssd.Plan(goes(1)...)
	r.is(r.Write(4, true, block(3), block(4), block(5)), api.ErrWrite)
	r.reads(4, block(3), nought, nought) // those behind it are not written
	if r.ssd.Open() == 0 {
		t.Error("it was flushed")
	}
	r.back.Plan(goes(1)...) // no slot is left: it goes past the cache
	r.is(r.Write(8, true, block(6)), api.ErrFlush)
	r.reads(8, block(6), block(2))
	r.ok(r.Write(9, true, block(7)))
	if r.ssd.Open() != 0 || r.back.Open() != 0 {
		t.Error("it is not firm")
	}
	c, _ := r.ssd.Crash()
	b, _ := r.back.Crash()
	opened(t, c, b).reads(8, block(6), block(7))
}

// P20.2
func TestFlush(t *testing.T) {
	r := made(t)
	r.ok(r.Write(1, false, block(1)))
	r.back.Plan(dev.Fails)
	r.is(r.Flush(), api.ErrFlush)
	r.ssd.Plan(goes(1)...)
	r.is(r.Flush(), api.ErrWrite)
	r.ok(r.Flush())
	c, _ := r.ssd.Crash()
	b, _ := r.back.Crash()
	opened(t, c, b).reads(0, nought, block(1))
}

// P20.2
func TestDiscard(t *testing.T) {
	r := made(t)
	r.ok(r.Write(3, true, block(1), block(2), block(3)))
	for _, s := range wrong {
		r.is(r.Discard(s), api.ErrRange)
	}
	r.back.Plan(goes(1)...)
	r.is(r.Discard(span(3, 3)), api.ErrWrite)
	r.reads(3, nought, block(2), block(3))
	r.ok(r.Discard(span(3, 2)))
	r.reads(3, nought, nought, block(3))
}

// P20.2
func TestMode(t *testing.T) {
	r := made(t)
	for _, m := range []int{-1, 3, most, least} {
		r.is(r.Mode(m), api.ErrArg)
	}
	for i, m := range []int{cache.Through, cache.Bypass, cache.Back} {
		r.ok(r.Mode(m))
		r.is(r.Mode(9), api.ErrArg)
		r.ok(r.Write(2*i, false, block(1), block(2)))
		b, _ := r.back.Read(2 * i)
		if (b == block(1)) != (m != cache.Back) {
			t.Error("mode", m)
		}
	}
	if s := r.Stats(); s != (volume.Stats{Cached: 4, Dirty: 2}) {
		t.Error(s)
	}
}

// P20.3
func TestPurge(t *testing.T) {
	r := made(t)
	r.ok(r.Write(3, false, block(1), block(2)))
	for _, s := range wrong {
		r.purges(s.From, s.N, 0, api.ErrRange)
	}
	r.purges(2, 2, 0, api.OK)
	r.reads(2, nought, nought, block(2))
	for from := range 9 {
		want := api.OK
		if from >= 1 && from < 4 {
			want = api.ErrBusy
		}
		r.is(r.Write(from, false, block(5), block(6)), want)
		r.is(r.Discard(span(from, 2)), want)
		if want != api.OK {
			r.purges(from, 2, 0, want)
		}
	}
	if r.Stats().Going != 1 {
		t.Error(r.Stats())
	}
	r.polls(0, purge.Going, api.OK)
	for range 20 {
		r.ok(r.Tick())
	}
	r.polls(0, purge.Done, api.OK)
	r.reads(2, nought, nought)
	r.ok(r.Write(2, false, block(7), block(8)))
	r.purges(0, 1, 1, api.OK)
	if l, e := r.Certs(); len(l) != 1 || e != api.OK || l[0].Span != span(2, 2) {
		t.Error(l, int(e))
	}
	if l, e := r.Failures(); len(l) != 0 || e != api.OK {
		t.Error(l, int(e))
	}
	r.purges(5, 1, 2, api.OK)
	r.purges(7, 1, 0, api.ErrFull)
	r.purges(0, 1, 0, api.ErrBusy)
	if r.Stats().Going != 2 {
		t.Error(r.Stats())
	}
}

// P20.3
func TestErrorsOfPurge(t *testing.T) {
	r := made(t)
	r.ssd.Plan(goes(1)...) // Next reads all 3 intents, Begin reads, writes and flushes
	r.purges(2, 2, 0, api.ErrRead)
	r.ssd.Plan(goes(4)...)
	r.purges(2, 2, 0, api.ErrWrite)
	r.reads(2, nought)
	r.ok(r.Write(2, false, block(1))) // it is not locked
	r.ssd.Plan(goes(5)...)
	r.purges(2, 2, 0, api.OK) // it can be got, though it is not firm
	r.polls(0, purge.Going, api.OK)
	r = made(t)
	r.ssd.Plan(0, 0, 0, 0, dev.Drops)
	r.purges(2, 2, 0, api.OK) // a device that lies
	r.purges(5, 2, 0, api.ErrThere)
	r.ok(r.Write(5, false, block(1), block(2))) // that one is not locked
	if r.Stats().Going != 1 {
		t.Error(r.Stats())
	}
}

// P20.3
func TestTheFirstPurgeThatIsGoingTicks(t *testing.T) {
	r := made(t)
	r.purges(0, 8, 0, api.OK) // 4 batches, and 2 of slots
	r.purges(8, 1, 1, api.OK) // one, as slots have no owners then
	for _, n := range []int{2, 2, 2, 2, 2, 2, 1} {
		if r.Stats().Going != n {
			t.Error(r.Stats(), n)
		}
		r.polls(1, purge.Going, api.OK)
		r.ok(r.Tick())
	}
	r.polls(0, purge.Done, api.OK)
	r.polls(1, purge.Done, api.OK)
	r.ssd.Plan(dev.Fails)
	r.back.Plan(dev.Fails)
	r.ok(r.Tick()) // nothing is to be done
	if r.ssd.Planned() != 1 || r.back.Planned() != 1 {
		t.Error("devices were called")
	}
}

// P20.3
func TestTick(t *testing.T) {
	r := made(t)
	r.ok(r.Write(0, true, block(1), block(2), block(3)))
	r.purges(5, 1, 0, api.OK)
	r.ssd.Plan(dev.Fails)
	r.is(r.Tick(), api.ErrRead) // writeback's: then no purge ticks
	if b, _ := r.ssd.Read(12); b != nought || r.Stats().Dirty != 3 {
		t.Error(r.Stats())
	}
	r.ssd.Plan(goes(2)...) // behind two blocks that are written back
	r.is(r.Tick(), api.ErrRead)
	if s := r.Stats(); s.Dirty != 1 || s.Going != 1 {
		t.Error(s)
	}
	r.reads(0, block(1), block(2), block(3), nought)
	for range 3 {
		r.ok(r.Tick())
	}
	r.polls(0, purge.Done, api.OK)
	if s := r.Stats(); s.Dirty != 1 || s.Going != 0 {
		t.Error(s)
	}
}

// P20.3
func TestFailures(t *testing.T) {
	r := made(t)
	r.purges(5, 1, 0, api.OK)
	r.back.Plan(goes(1)...)
	for range 20 {
		r.ok(r.Tick())
	}
	r.polls(0, purge.Failed, api.OK)
	r.ok(r.Write(5, true, block(1))) // it is locked no more
	l, e := r.Failures()
	if len(l) != 1 || e != api.OK || l[0].Span != span(5, 1) || l[0].Sectors[0] != 5 {
		t.Error(l, int(e))
	}
	r.ssd.Plan(dev.Fails)
	if l, e := r.Failures(); len(l) != 0 || e != api.ErrRead {
		t.Error(l, int(e))
	}
	r.ssd.Plan(dev.Fails)
	if l, e := r.Certs(); len(l) != 0 || e != api.ErrRead {
		t.Error(l, int(e))
	}
	r.ssd.Plan(goes(2)...)
	r.polls(0, purge.Failed, api.OK) // no log is asked of a purge of this volume
	if r.ssd.Planned() != 3 {
		t.Error(r.ssd.Planned())
	}
}

// P20.3
func TestPollOfOthers(t *testing.T) {
	r := made(t)
	put := func(sector int, b api.Block, e api.Errno) {
		t.Helper()
		r.ok(e)
		r.ok(r.ssd.Write(sector, b))
	}
	b, e := forms.PutCert(forms.Cert{ID: 0, Span: span(1, 1)})
	put(12, b, e)
	b, e = forms.PutFailure(forms.Failure{ID: 1, Span: span(1, 1), Many: 1})
	put(16, b, e)
	b, e = forms.PutCert(forms.Cert{ID: 2, Span: span(1, 1)})
	put(14, b, e)
	b, e = forms.PutFailure(forms.Failure{ID: 2, Span: span(1, 1), Many: 1})
	put(17, b, e)
	for range 2 {
		r.polls(0, purge.Done, api.OK)
		r.polls(1, purge.Failed, api.OK)
		r.polls(2, purge.Done, api.OK)
		for _, id := range []int{3, -1, most, least} {
			r.polls(id, 0, api.ErrNone)
		}
		r.ssd.Plan(dev.Fails)
		r.polls(0, 0, api.ErrNone)
		r.ssd.Plan(dev.Fails)
		r.polls(2, purge.Failed, api.OK)
		r.ssd.Plan(dev.Fails)
		r.polls(1, purge.Failed, api.OK)
		r.ssd.Plan(goes(1)...)
		r.polls(1, 0, api.ErrNone)
		put(13, block(9), api.OK) // of another form: the other log is asked all the same
	}
}

// P20.3
func TestPollOfTheFirstOfANumber(t *testing.T) {
	r := made(t)
	r.purges(5, 1, 0, api.OK)
	for range 20 {
		r.ok(r.Tick())
	}
	r.ok(r.ssd.Write(9, nought)) // as if its intent had been lost
	r.purges(6, 2, 0, api.OK)
	r.polls(0, purge.Done, api.OK)
	if r.Stats().Going != 1 {
		t.Error(r.Stats())
	}
}

// P20.4
func TestDetach(t *testing.T) {
	r := made(t)
	r.ok(r.Write(0, false, block(1), block(2), block(3)))
	r.purges(5, 1, 0, api.OK)
	r.is(r.Detach(), api.ErrBusy)
	r.ok(r.Flush())
	for range 20 {
		r.ok(r.Tick())
	}
	r.ssd.Plan(dev.Fails)
	r.is(r.Detach(), api.ErrRead) // Drain's
	r.reads(0, block(1))
	r.ok(r.Write(1, false, block(9)))
	r.back.Plan(0, 0, 0, 0, dev.Fails) // two blocks and a flush, Commit's flush, then Checkpoint's
	r.is(r.Detach(), api.ErrFlush)
	r.reads(1, block(9))
	if s := r.Stats(); s.Dirty != 0 {
		t.Error(s)
	}
	r.ok(r.Detach())
	for b, want := range [4]api.Block{block(1), block(9), block(3)} {
		if x, _ := r.back.Firm(b); x != want {
			t.Error("block", b)
		}
	}
	r.is(r.Detach(), api.ErrState)
	if r.ssd.Open() != 0 || r.back.Open() != 0 {
		t.Error("open writes")
	}
	opened(t, r.ssd, r.back).reads(0, block(1), block(9), block(3), nought)
}

// P20.4
func TestStats(t *testing.T) {
	r := made(t)
	if r.Stats() != (volume.Stats{Free: 4}) || r.Blocks() != 10 {
		t.Error(r.Stats())
	}
	r.ok(r.Write(0, false, block(1), block(2)))
	r.ok(r.Write(0, false, block(1)))
	r.ssd.Plan(dev.Fails)
	r.is(r.Write(3, false, block(1)), api.ErrWrite)
	if r.Stats() != (volume.Stats{Cached: 2, Dirty: 2, Stale: 1, Bad: 1}) {
		t.Error(r.Stats())
	}
}

// dice is a row of numbers that look thrown.
type dice int

func (d *dice) next(most int) int {
	*d = (*d*1103515245 + 12345) & (1<<31 - 1)
	return int(*d) >> 8 % most
}

// P20.5
func TestAgainstAnArray(t *testing.T) {
	for seed := range 12 {
		n := dice(seed * 31)
		r := made(t)
		var model [10]api.Block
		locked := map[int]api.Span{}
		free := func(s api.Span) bool {
			for _, x := range locked {
				if s.From < x.From+x.N && x.From < s.From+s.N {
					return false
				}
			}
			return true
		}
		fill := func(s api.Span, x api.Block) {
			for i := range s.N {
				model[s.From+i] = x
			}
		}
		for step := range 600 {
			from := n.next(10)
			s, x := span(from, 1+n.next(min(4, 10-from))), block(n.next(1<<16))
			want := api.OK
			if !free(s) {
				want = api.ErrBusy
			}
			switch n.next(10) {
			case 0, 1, 2, 3:
				r.is(r.Write(s.From, n.next(3) == 0, slices.Repeat([]api.Block{x}, s.N)...), want)
				if want == api.OK {
					fill(s, x)
				}
			case 4:
				r.is(r.Discard(s), want)
				if want == api.OK {
					fill(s, nought)
				}
			case 5:
				r.ok(r.Mode(n.next(3)))
			case 6:
				r.ok(r.Flush())
			case 7:
				if n.next(4) > 0 {
					break
				}
				id, e := r.Purge(s)
				if e == api.OK {
					locked[id] = s
					fill(s, nought)
				} else if e != want && e != api.ErrFull {
					t.Error("Purge", int(e))
				}
			default:
				r.ok(r.Tick())
				for id := range locked {
					if state, _ := r.Poll(id); state == purge.Done {
						delete(locked, id)
					}
				}
			}
			r.reads(0, model[:]...)
			if t.Failed() {
				t.Fatal("seed", seed, "step", step)
			}
		}
		for len(locked) > 0 {
			r.ok(r.Tick())
			for id := range locked {
				if state, _ := r.Poll(id); state == purge.Done {
					delete(locked, id)
				}
			}
		}
		r.ok(r.Detach())
		for b, want := range model {
			if x, _ := r.back.Firm(b); x != want {
				t.Fatal("seed", seed, "block", b)
			}
		}
	}
}

// P20.1, P20.3
func TestAPurgeGoesOnBehindCrashes(t *testing.T) {
	for seed := range 60 {
		n := dice(seed)
		crash := func(d *dev.Device) *dev.Device {
			keep := make([]bool, d.Open())
			for i := range keep {
				keep[i] = n.next(2) == 0
			}
			c, e := d.Crash(keep...)
			if e != api.OK {
				t.Fatal(int(e))
			}
			return c
		}
		r := made(t)
		for range 5 {
			b := n.next(7)
			r.ok(r.Mode(n.next(3)))
			r.ok(r.Write(b, true, block(100+b), block(101+b), block(102+b))) // each block is one thing only
		}
		r.purges(2, 4, 0, api.OK)
		for i := range 100 {
			if state, e := r.Poll(0); state == purge.Done {
				r.ok(e)
				break
			}
			if i == 99 {
				t.Fatal("it does not end")
			}
			if n.next(3) > 0 {
				r.ok(r.Tick())
				continue
			}
			r.ssd.Plan(goes(n.next(30))...) // a call in the midst of a tick
			if r.Tick() != api.OK || n.next(2) == 0 {
				r = opened(t, crash(r.ssd), crash(r.back))
			}
			for r.ssd.Planned() > 0 {
				r.ssd.Read(0)
			}
			if _, e := r.Poll(0); e != api.OK {
				t.Fatal("it is gone", int(e))
			}
			if state, _ := r.Poll(0); state == purge.Failed { // a sector was not overwritten
				break
			}
		}
		if state, _ := r.Poll(0); state == purge.Failed {
			continue
		}
		for _, d := range []*dev.Device{r.ssd, r.back} {
			for sector := range d.Size() {
				now, _ := d.Read(sector)
				firm, _ := d.Firm(sector)
				for x := 102; x < 106; x++ { // what the blocks 2 to 5 were
					if now == block(x) || firm == block(x) {
						t.Error(seed, "sector", sector, "of", d.Size(), "has block", x-100)
					}
				}
			}
		}
		r.reads(2, nought, nought, nought, nought)
	}
}
