package cache_test

import (
	"slices"
	"testing"

	"lavabo/api"
	"lavabo/cache"
	"lavabo/dev"
	"lavabo/forms"
	"lavabo/journal"
	"lavabo/pages"
)

// dice is a row of numbers that look thrown.
type dice int

func (d *dice) next(most int) int {
	*d = (*d*1103515245 + 12345) & (1<<31 - 1)
	return int(*d) >> 8 % most
}

// crashed is a device of which some open writes are kept.
func crashed(t *testing.T, d *dev.Device, n *dice) *dev.Device {
	t.Helper()
	keep := make([]bool, d.Open())
	for i := range keep {
		keep[i] = n.next(2) == 0
	}
	c, e := d.Crash(keep...)
	if e != api.OK {
		t.Fatal(int(e))
	}
	return c
}

// again is the cache that devices tell of: the newest checkpoint, and all
// records behind it, of those blocks that are dirty.
func again(t *testing.T, s forms.Super, ssd, back *dev.Device) *rig {
	t.Helper()
	p, _ := cache.Plan(s)
	which, seq, l, e := pages.Newest(ssd, p.Pages, s.Pages)
	if e != api.OK {
		t.Fatal("no checkpoint", int(e))
	}
	records, e := journal.Scan(ssd, p.Journal, s.Journal)
	if e != api.OK {
		t.Fatal(int(e))
	}
	records, seq = journal.Replay(records, seq)
	at := map[int]forms.Entry{}
	for _, x := range l {
		at[x.Block] = x
	}
	for _, r := range records {
		delete(at, r.Block)
		if r.Op == journal.Put {
			at[r.Block] = forms.Entry{Block: r.Block, Slot: r.Slot, Dirty: r.Dirty, Sum: r.Sum}
		}
	}
	l = nil
	for b := range s.Blocks {
		if x, in := at[b]; in && x.Dirty {
			l = append(l, x)
		}
	}
	c, e := cache.New(s, ssd, back, which, seq+1, l...)
	if e != api.OK {
		t.Fatal("no cache", int(e))
	}
	return &rig{Cache: c, t: t, ssd: ssd, back: back}
}

// written is what blocks were, each since it was firm: that first, what it is now last.
type written [8][]api.Block

func (w *written) firm() {
	for b := range w {
		w[b] = w[b][len(w[b])-1:]
	}
}

// step does one thing, and tells what it writes.
func step(r *rig, n *dice, w *written) {
	b, x := n.next(8), block(n.next(1<<16))
	switch n.next(12) {
	case 0, 1, 2, 3, 4, 5:
		mode := []int{cache.Back, cache.Back, cache.Through, cache.Bypass}[n.next(4)]
		w[b] = append(w[b], x)
		r.ok(r.Write(b, x, mode))
	case 6:
		w[b] = append(w[b], nought)
		r.ok(r.Discard(b))
	case 7: // what is dirty is written back
		if p, in := r.Place(b); in && p.Dirty {
			x, e := r.Read(b)
			r.ok(e)
			r.ok(r.back.Write(b, x))
			r.ok(r.back.Flush())
			r.ok(r.Clean(b))
		}
	case 8:
		if p, in := r.Place(b); in && !p.Dirty {
			r.ok(r.Drop(b))
		}
	case 9:
		_, e := r.Evict(n.next(3))
		r.ok(e)
	case 10:
		r.ok(r.Commit())
		w.firm()
	case 11:
		r.ok(r.Checkpoint())
		w.firm()
	}
}

// P14.6
func TestReadsAreWhatWasWrittenLast(t *testing.T) {
	for _, s := range []forms.Super{small(), {Blocks: 8, Slots: 1, Journal: 4, Pages: 1, Logs: 1, Batch: 1}, {Blocks: 8, Slots: 12, Journal: 5, Pages: 3, Logs: 1, Batch: 1}} {
		n := dice(s.Slots)
		r := made(t, s, 0)
		r.ok(r.Checkpoint())
		var w written
		for b := range w {
			w[b] = []api.Block{nought}
		}
		for i := range 4000 {
			step(r, &n, &w)
			for b := range w {
				r.reads(b, w[b][len(w[b])-1])
			}
			if t.Failed() {
				t.Fatal("step", i)
			}
		}
	}
}

// P14.6
func TestBehindCrashes(t *testing.T) {
	for seed := range 12 {
		n := dice(seed * 7919)
		s := forms.Super{Blocks: 8, Slots: 1 + n.next(9), Journal: 4 + n.next(9), Pages: 3, Logs: 1, Batch: 1}
		r := made(t, s, 0)
		r.ok(r.Checkpoint())
		var w written
		for b := range w {
			w[b] = []api.Block{nought}
		}
		for range 150 {
			for range n.next(14) {
				step(r, &n, &w)
			}
			r = again(t, s, crashed(t, r.ssd, &n), crashed(t, r.back, &n))
			for b := range w {
				x, e := r.Read(b)
				if e != api.OK || !slices.Contains(w[b], x) {
					t.Fatal("seed", seed, "block", b, "reads", x[:2], int(e))
				}
				w[b] = append(w[b], x)
			}
			r.ok(r.Checkpoint())
			w.firm()
		}
	}
}
