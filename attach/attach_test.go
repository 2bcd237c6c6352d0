package attach_test

import (
	"slices"
	"testing"

	"lavabo/api"
	"lavabo/attach"
	"lavabo/cache"
	"lavabo/crc"
	"lavabo/dev"
	"lavabo/forms"
	"lavabo/index"
	"lavabo/journal"
	"lavabo/logs"
	"lavabo/pages"
)

// super is a superblock of 8 blocks: pages from 1 on, two each, journal 5 to
// 8, logs 9 to 17, slots 18 to 23.
func super() forms.Super {
	return forms.Super{ID: 5, Blocks: 8, Slots: 6, Journal: 4, Pages: 2, Logs: 3, Batch: 2}
}

const slotsAt, size = 18, 24

func devices(t *testing.T) (ssd, back *dev.Device) {
	t.Helper()
	ssd, e := dev.New(size)
	if e != api.OK {
		t.Fatal(int(e))
	}
	back, e = dev.New(8)
	if e != api.OK {
		t.Fatal(int(e))
	}
	return ssd, back
}

// formatted is two devices, laid out as super tells.
func formatted(t *testing.T) (ssd, back *dev.Device) {
	t.Helper()
	ssd, back = devices(t)
	is(t, attach.Format(super(), ssd, back), api.OK)
	return ssd, back
}

func is(t *testing.T, e, want api.Errno) {
	t.Helper()
	if e != want {
		t.Errorf("error %d, not %d", int(e), int(want))
	}
}

func block(n int) api.Block { return api.Block{byte(n), 7, 63: byte(n >> 8)} }

func entry(n, slot, x int) forms.Entry {
	b := block(x)
	return forms.Entry{Block: n, Slot: slot, Dirty: true, Sum: crc.Sum(b[:])}
}

// goes is so many calls that go, and then one that fails.
func goes(n int) []int { return append(make([]int, n), dev.Fails) }

// write puts a sector on a device, firm.
func write(t *testing.T, d *dev.Device, sector int, b api.Block, e api.Errno) {
	t.Helper()
	is(t, e, api.OK)
	is(t, d.Write(sector, b), api.OK)
	is(t, d.Flush(), api.OK)
}

// P19.1
func TestFormatRefuses(t *testing.T) {
	ssd, back := devices(t)
	less, _ := dev.New(size - 1)
	wrong, far := super(), super()
	wrong.Journal, wrong.ID = 3, -1
	far.ID = api.MaxSeq + 1
	for i, c := range []struct {
		s         forms.Super
		ssd, back *dev.Device
		want      api.Errno
	}{
		{wrong, nil, back, api.ErrNil}, {wrong, ssd, nil, api.ErrNil}, {wrong, less, back, api.ErrSize},
		{far, less, back, api.ErrRange}, {super(), less, back, api.ErrMatch}, {super(), ssd, ssd, api.ErrMatch}, {super(), back, ssd, api.ErrMatch},
	} {
		if e := attach.Format(c.s, c.ssd, c.back); e != c.want {
			t.Error(i, int(e))
		}
	}
	if ssd.Open() != 0 || less.Open() != 0 || back.Open() != 0 {
		t.Error("devices were written")
	}
}

// P19.1
func TestFormat(t *testing.T) {
	ssd, back := devices(t)
	for s := range size {
		ssd.Write(s, block(s+1))
	}
	ssd.Flush()
	back.Write(3, block(9))
	is(t, attach.Format(super(), ssd, back), api.OK)
	for s := range size {
		b, _ := ssd.Firm(s)
		switch {
		case s == 0:
			if x, e := forms.GetSuper(b); x != super() || e != api.OK {
				t.Error("the superblock", x, int(e))
			}
		case s == 1:
			if x, e := forms.GetPage(b); x != (forms.Page{Of: 1}) || e != api.OK {
				t.Error("the page", x, int(e))
			}
		case s < slotsAt:
			if b != (api.Block{}) {
				t.Error("sector", s)
			}
		default:
			if b != block(s+1) {
				t.Error("sector", s, "of the slots")
			}
		}
	}
	if ssd.Open() != 0 || back.Open() != 1 {
		t.Error("open writes", ssd.Open(), back.Open())
	}
	if w, seq, l, e := attach.Entries(super(), ssd); w != 0 || seq != 0 || len(l) != 0 || e != api.OK {
		t.Error(w, seq, l, int(e))
	}
}

// P19.1
func TestStepsOfFormat(t *testing.T) {
	// sector 0, a flush; 17 sectors; 2 of the checkpoint, a flush; the superblock, a flush
	want := slices.Repeat([]api.Errno{api.ErrWrite}, 24)
	want[1], want[21], want[23] = api.ErrFlush, api.ErrFlush, api.ErrFlush
	for n, e := range want {
		ssd, back := formatted(t)
		ssd.Plan(append(goes(n), dev.Fails)...)
		back.Plan(dev.Fails)
		is(t, attach.Format(super(), ssd, back), e)
		if ssd.Planned() != 1 || back.Planned() != 1 {
			t.Error(n, "fates are left:", ssd.Planned(), back.Planned())
		}
		if n < 2 {
			continue
		}
		c, _ := ssd.Crash()
		if _, e := attach.Super(c, back.Copy()); e != api.ErrSum {
			t.Error(n, "there is a superblock, as long as it is not firm", int(e))
		}
	}
	ssd, back := formatted(t)
	ssd.Plan(goes(24)...)
	is(t, attach.Format(super(), ssd, back), api.OK)
	if ssd.Planned() != 1 {
		t.Error("there are more steps")
	}
}

// P19.2
func TestSuper(t *testing.T) {
	ssd, back := formatted(t)
	if s, e := attach.Super(ssd, back); s != super() || e != api.OK {
		t.Error(s, int(e))
	}
	refused := func(ssd, back *dev.Device, want api.Errno) {
		t.Helper()
		if s, e := attach.Super(ssd, back); s != (forms.Super{}) || e != want {
			t.Error(s, int(e), "not", int(want))
		}
	}
	refused(nil, back, api.ErrNil)
	refused(ssd, nil, api.ErrNil)
	ssd.Plan(dev.Fails)
	refused(ssd, back, api.ErrRead)
	more, _ := dev.New(9)
	refused(ssd, more, api.ErrMatch)
	large, _ := dev.New(size + 1)
	b, _ := ssd.Read(0)
	write(t, large, 0, b, api.OK)
	refused(large, back, api.ErrMatch)
	blank, _ := devices(t)
	refused(blank, back, api.ErrSum)
	b, e := forms.PutIntent(forms.Intent{Span: api.Span{N: 1}})
	write(t, blank, 0, b, e)
	refused(blank, back, api.ErrForm)
	s := super()
	s.Journal = 3 // a superblock, but no cache's
	b, e = forms.PutSuper(s)
	write(t, blank, 0, b, e)
	refused(blank, more, api.ErrSize)
}

// P19.2
func TestApply(t *testing.T) {
	put := func(n, slot int, dirty bool) forms.Record {
		return forms.Record{Op: journal.Put, Block: n, Slot: slot, Dirty: dirty, Sum: n * 10, Seq: 99}
	}
	drop := func(n, op int) forms.Record { return forms.Record{Op: op, Block: n, Slot: 3} }
	at := func(n, slot int, dirty bool) forms.Entry {
		return forms.Entry{Block: n, Slot: slot, Dirty: dirty, Sum: n * 10}
	}
	for i, c := range []struct {
		l       []forms.Entry
		records []forms.Record
		want    []forms.Entry
		e       api.Errno
	}{
		{nil, nil, nil, api.OK},
		{[]forms.Entry{at(5, 1, true), at(2, 3, false)}, nil, []forms.Entry{at(2, 3, false), at(5, 1, true)}, api.OK},
		{[]forms.Entry{at(5, 1, true)}, []forms.Record{put(2, 3, true), put(9, 0, false)}, []forms.Entry{at(2, 3, true), at(5, 1, true), at(9, 0, false)}, api.OK},
		{[]forms.Entry{at(5, 1, true)}, []forms.Record{put(5, 3, false)}, []forms.Entry{at(5, 3, false)}, api.OK},
		{[]forms.Entry{at(5, 1, true), at(4, 2, true)}, []forms.Record{drop(5, journal.Drop)}, []forms.Entry{at(4, 2, true)}, api.OK},
		{[]forms.Entry{at(5, 1, true)}, []forms.Record{drop(5, 7)}, nil, api.OK},
		{[]forms.Entry{at(5, 1, true)}, []forms.Record{drop(5, -1)}, nil, api.OK},
		{[]forms.Entry{at(5, 1, true)}, []forms.Record{drop(6, 1)}, []forms.Entry{at(5, 1, true)}, api.OK},
		{nil, []forms.Record{put(2, 3, true), drop(2, 1), put(2, 4, true), put(1, 3, true)}, []forms.Entry{at(1, 3, true), at(2, 4, true)}, api.OK},
		{[]forms.Entry{at(5, 1, true)}, []forms.Record{put(2, 1, true), drop(5, 1)}, []forms.Entry{at(2, 1, true)}, api.OK}, // not so in the end
		{[]forms.Entry{at(5, 1, true), at(2, 1, true)}, []forms.Record{put(2, 3, true)}, []forms.Entry{at(2, 3, true), at(5, 1, true)}, api.OK},
		{[]forms.Entry{at(5, 1, true)}, []forms.Record{put(2, 1, true)}, nil, api.ErrForm},
		{[]forms.Entry{at(5, 1, true), at(2, 1, true)}, nil, nil, api.ErrForm},
		{[]forms.Entry{at(5, 1, true), at(5, 2, true)}, nil, nil, api.ErrForm},
		{[]forms.Entry{at(5, 1, true), at(5, 2, true)}, []forms.Record{drop(5, 1)}, nil, api.ErrForm},
		{[]forms.Entry{at(-4, 1<<62, true)}, nil, []forms.Entry{at(-4, 1<<62, true)}, api.OK},
	} {
		was := slices.Clone(c.l)
		if got, e := attach.Apply(c.l, c.records...); !slices.Equal(got, c.want) || e != c.e || !slices.Equal(c.l, was) {
			t.Error(i, got, int(e))
		}
	}
}

// P19.2
func TestEntries(t *testing.T) {
	ssd, _ := formatted(t)
	entries := func(which, seq int, wrong api.Errno, want ...forms.Entry) {
		t.Helper()
		w, s, l, e := attach.Entries(super(), ssd)
		if w != which || s != seq || !slices.Equal(l, want) || e != wrong {
			t.Error(w, s, l, int(e))
		}
	}
	record := func(seq, n, slot int) {
		t.Helper()
		b, e := forms.PutRecord(forms.Record{Seq: seq, Lap: (seq - 1) / 4, Block: n, Slot: slot, Dirty: true, Sum: entry(n, slot, n).Sum})
		write(t, ssd, 5+(seq-1)%4, b, e)
	}
	record(1, 6, 0)
	record(2, 3, 1)
	record(4, 7, 2) // one is missing
	entries(0, 4, api.OK, entry(3, 1, 3), entry(6, 0, 6))
	is(t, pages.Save(ssd, 1, 2, 1, 2, entry(4, 4, 4)), api.OK)
	entries(1, 4, api.OK, entry(4, 4, 4))
	record(7, 5, 5) // instead of the third one
	entries(1, 7, api.OK, entry(4, 4, 4))
	record(3+4*5, 4, 4)
	record(3, 5, 5)
	entries(1, 4, api.OK, entry(4, 4, 4), entry(5, 5, 5), entry(7, 2, 7))
	record(5, 6, 5)
	entries(0, 0, api.ErrForm)
	is(t, pages.Save(ssd, 1, 2, 0, 9), api.OK)
	entries(0, 9, api.OK) // all records are older
	for n := range 8 {
		ssd.Plan(goes(n)...)
		entries(0, 0, api.ErrRead)
	}
	write(t, ssd, 1, api.Block{1}, api.OK)
	write(t, ssd, 3, api.Block{1}, api.OK)
	entries(0, 0, api.ErrNone)
	wrong := super()
	wrong.Slots = 0
	if w, seq, l, e := attach.Entries(wrong, nil); w != 0 || seq != 0 || len(l) != 0 || e != api.ErrSize {
		t.Error(w, seq, int(e))
	}
	if w, seq, l, e := attach.Entries(super(), nil); w != 0 || seq != 0 || len(l) != 0 || e != api.ErrNil {
		t.Error(w, seq, int(e))
	}
}

// attached tells if devices are no cache.
func attached(t *testing.T, ssd, back *dev.Device) (*cache.Cache, logs.Logs, []forms.Intent) {
	t.Helper()
	c, l, waits, e := attach.Attach(ssd, back)
	if c == nil || e != api.OK {
		t.Fatal("no cache", int(e))
	}
	return c, l, waits
}

// refused tells if devices are told to be a cache, or are written.
func refused(t *testing.T, ssd, back *dev.Device, want api.Errno) {
	t.Helper()
	c, l, waits, e := attach.Attach(ssd, back)
	if c != nil || l != (logs.Logs{}) || len(waits) != 0 || e != want {
		t.Error(int(e), "not", int(want))
	}
	if ssd.Open() != 0 || back.Open() != 0 {
		t.Error("they were written")
	}
}

// P19.3
func TestAttachRefuses(t *testing.T) {
	ssd, back := devices(t)
	refused(t, ssd, back, api.ErrSum)
	refused(t, nil, back, api.ErrNil)
	refused(t, ssd, nil, api.ErrNil)
	ssd, back = formatted(t)
	more, _ := dev.New(9)
	refused(t, ssd, more, api.ErrMatch)
	// the superblock, both checkpoints, the journal, and the logs are read
	for n := range 1 + 4 + 4 + 9 {
		ssd.Plan(goes(n)...)
		refused(t, ssd, back, api.ErrRead)
		if ssd.Planned() != 0 {
			t.Error(n)
		}
	}
	write(t, ssd, 9, api.Block{5}, api.OK)
	refused(t, ssd, back, api.ErrForm) // a log's
	ssd, back = formatted(t)
	is(t, pages.Save(ssd, 1, 2, 0, 3, forms.Entry{Block: 8, Dirty: true}), api.OK)
	refused(t, ssd, back, api.ErrForm) // cache.New's
	is(t, pages.Save(ssd, 1, 2, 0, 3, forms.Entry{Block: 8}), api.OK)
	attached(t, ssd, back) // it is not dirty
	is(t, pages.Save(ssd, 1, 2, 0, api.MaxSeq-1), api.OK)
	refused(t, ssd, back, api.ErrOver)
	is(t, pages.Save(ssd, 1, 2, 0, api.MaxSeq-2), api.OK)
	attached(t, ssd, back)
}

// P19.3
func TestAttachSavesACheckpoint(t *testing.T) {
	for n, want := range map[int]api.Errno{18: api.ErrFlush, 19: api.ErrWrite, 20: api.ErrWrite, 21: api.ErrFlush} {
		ssd, back := formatted(t)
		ssd.Plan(goes(n)...)
		c, l, waits, e := attach.Attach(ssd, back)
		if c != nil || l != (logs.Logs{}) || len(waits) != 0 || e != want || ssd.Planned() != 0 {
			t.Error(n, int(e))
		}
	}
	ssd, back := formatted(t)
	back.Plan(dev.Fails)
	if c, _, _, e := attach.Attach(ssd, back); c != nil || e != api.ErrFlush {
		t.Error(int(e))
	}
	is(t, pages.Save(ssd, 1, 2, 1, 6, entry(3, 2, 9), forms.Entry{Block: 5, Slot: 4}), api.OK)
	for s := range 2 {
		write(t, ssd, slotsAt+2, block(9), api.OK)
		c, _, _ := attached(t, ssd, back)
		w, seq, l, e := pages.Newest(ssd, 1, 2)
		if w != s || seq != 7+s || !slices.Equal(l, []forms.Entry{entry(3, 2, 9)}) || e != api.OK || ssd.Open() != 0 {
			t.Error(w, seq, l, int(e))
		}
		if b, e := c.Read(3); b != block(9) || e != api.OK {
			t.Error(b, int(e))
		}
		if p, in := c.Place(3); !in || p != (index.Place{Slot: 2, Dirty: true}) {
			t.Error(p, in)
		}
		if _, in := c.Place(5); in {
			t.Error("it was not dirty")
		}
		if c.Super() != super() {
			t.Error(c.Super())
		}
	}
}

// P19.3
func TestAttachTellsWhatWaits(t *testing.T) {
	ssd, back := formatted(t)
	_, l, waits := attached(t, ssd, back)
	if len(waits) != 0 {
		t.Error(waits)
	}
	intents := []forms.Intent{{ID: 0, Span: api.Span{N: 2}}, {ID: 1, Span: api.Span{From: 3, N: 2}}, {ID: 2, Span: api.Span{From: 7, N: 1}}}
	for _, x := range intents {
		is(t, l.Intents.Put(x), api.OK)
	}
	is(t, l.Certs.Put(forms.Cert{ID: 1, Span: api.Span{N: 1}}), api.OK)
	_, l, waits = attached(t, ssd, back)
	if !slices.Equal(waits, []forms.Intent{intents[0], intents[2]}) {
		t.Error(waits)
	}
	if x, e := l.Intents.Get(1); x != intents[1] || e != api.OK {
		t.Error(x, int(e))
	}
	is(t, l.Failures.Put(forms.Failure{ID: 2, Span: api.Span{N: 1}, Many: 1}), api.OK)
	if _, _, waits = attached(t, ssd, back); !slices.Equal(waits, intents[:1]) {
		t.Error(waits)
	}
}

// P19.4
func TestAttachOfFormat(t *testing.T) {
	ssd, back := formatted(t)
	write(t, back, 2, block(4), api.OK)
	c, _, waits := attached(t, ssd, back)
	for b := range c.Places(api.Span{N: 8}) {
		t.Error("block", b)
	}
	if x, e := c.Read(2); x != block(4) || e != api.OK || len(waits) != 0 || c.Count(0) != 6 {
		t.Error(int(e), waits)
	}
}

// crashed is a device of which some open writes are kept.
func crashed(t *testing.T, d *dev.Device, next func(most int) int) *dev.Device {
	t.Helper()
	keep := make([]bool, d.Open())
	for i := range keep {
		keep[i] = next(2) == 0
	}
	c, e := d.Crash(keep...)
	is(t, e, api.OK)
	return c
}

// P19.4
func TestAttachBehindCrashes(t *testing.T) {
	for seed := range 10 {
		n := seed * 7
		next := func(most int) int {
			n = (n*1103515245 + 12345) & (1<<31 - 1)
			return n >> 8 % most
		}
		ssd, back := formatted(t)
		var was [8][]api.Block
		for b := range was {
			was[b] = []api.Block{{}}
		}
		for crash := range 150 {
			// Attach itself may crash, too.
			if next(3) == 0 {
				ssd.Plan(goes(18 + next(4))...)
				attach.Attach(ssd, back)
				ssd, back = crashed(t, ssd, next), crashed(t, back, next)
			}
			c, _, _ := attached(t, ssd, back)
			for b := range was {
				x, e := c.Read(b)
				if e != api.OK || !slices.Contains(was[b], x) {
					t.Fatal(seed, crash, "block", b, "reads", x[:2], int(e))
				}
				was[b] = []api.Block{x}
			}
			for range next(14) {
				b, x := next(8), block(next(1<<16))
				if next(6) == 0 {
					is(t, c.Commit(), api.OK)
					for b := range was {
						was[b] = was[b][len(was[b])-1:]
					}
					continue
				}
				was[b] = append(was[b], x)
				is(t, c.Write(b, x, next(3)), api.OK)
			}
			ssd, back = crashed(t, ssd, next), crashed(t, back, next)
		}
	}
}
