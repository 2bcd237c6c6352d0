package journal_test

import (
	"slices"
	"testing"

	"lavabo/api"
	"lavabo/dev"
	"lavabo/forms"
	"lavabo/journal"
)

func device(t *testing.T, n int) *dev.Device {
	t.Helper()
	d, e := dev.New(n)
	if e != api.OK {
		t.Fatal(int(e))
	}
	return d
}

func made(t *testing.T, d *dev.Device, base, n, seq int) *journal.Journal {
	t.Helper()
	j, e := journal.New(d, base, n, seq)
	if j == nil || e != api.OK {
		t.Fatal("no journal", int(e))
	}
	return j
}

// record is one whose Block tells what it is.
func record(block int) forms.Record {
	return forms.Record{Op: journal.Put, Block: block, Slot: block % 7, Dirty: block%2 == 0, Sum: block * 1000}
}

func add(t *testing.T, j *journal.Journal, want int, l ...forms.Record) {
	t.Helper()
	for i, r := range l {
		if seq, e := j.Add(r); seq != want+i || e != api.OK {
			t.Fatalf("Add: %d, not %d; %d", seq, want+i, int(e))
		}
	}
}

func commit(t *testing.T, j *journal.Journal, want api.Errno) {
	t.Helper()
	if e := j.Commit(); e != want {
		t.Fatalf("Commit: %d, not %d", int(e), int(want))
	}
}

// counts tells if a journal counts otherwise.
func counts(t *testing.T, j *journal.Journal, next, room, waits int) {
	t.Helper()
	if j.Next() != next || j.Room() != room || j.Waits() != waits {
		t.Errorf("Next %d, Room %d, Waits %d, not %d %d %d", j.Next(), j.Room(), j.Waits(), next, room, waits)
	}
}

// stands tells if a sector does not tell that record.
func stands(t *testing.T, d *dev.Device, sector int, r forms.Record) {
	t.Helper()
	b, e := d.Firm(sector)
	if got, f := forms.GetRecord(b); got != r || e != api.OK || f != api.OK {
		t.Errorf("sector %d: %+v %d, not %+v", sector, got, int(f), r)
	}
}

// at is a record, of that Seq and Lap.
func at(r forms.Record, seq, lap int) forms.Record {
	r.Seq, r.Lap = seq, lap
	return r
}

const most, least = 1<<63 - 1, -1 << 63

// wrong is where no journal stands on 20 sectors.
var wrong = [][2]int{{-1, 4}, {0, 0}, {0, -1}, {0, 21}, {17, 4}, {20, 1}, {most, 1}, {1, most}, {most, most}, {least, 4}, {least, least}, {-5, 10}}

// P11.1
func TestNew(t *testing.T) {
	d := device(t, 20)
	for _, c := range wrong {
		if j, e := journal.New(d, c[0], c[1], 0); j != nil || e != api.ErrRange {
			t.Error(c, int(e))
		}
		if j, e := journal.New(d, c[0], c[1], -1); j != nil || e != api.ErrRange {
			t.Error("ErrRange is told ahead of ErrOver", c, int(e))
		}
		if j, e := journal.New(nil, c[0], c[1], 0); j != nil || e != api.ErrNil {
			t.Error("nil", c, int(e))
		}
	}
	for _, seq := range []int{-1, api.MaxSeq, api.MaxSeq + 1, most, least} {
		if j, e := journal.New(d, 0, 4, seq); j != nil || e != api.ErrOver {
			t.Error(seq, int(e))
		}
	}
	counts(t, made(t, d, 0, 20, 0), 1, 20, 0)
	counts(t, made(t, d, 19, 1, api.MaxSeq-1), api.MaxSeq, 1, 0)
	big := device(t, 4096)
	counts(t, made(t, big, 3072, 1024, 5), 6, 1024, 0)
	if j, e := journal.New(big, 0, 1025, 0); j != nil || e != api.ErrRange {
		t.Error(int(e))
	}
	if !slices.Equal(made(t, d, 5, 3, 9).Sectors(), []int{5, 6, 7}) || d.Open() != 0 {
		t.Error("Sectors")
	}
}

// P11.2
func TestExample(t *testing.T) {
	d := device(t, 20)
	j := made(t, d, 5, 3, 0)
	add(t, j, 1, record(1), record(2), record(3))
	if seq, e := j.Add(record(4)); seq != 0 || e != api.ErrFull {
		t.Error(seq, int(e))
	}
	counts(t, j, 4, 0, 3)
	commit(t, j, api.OK)
	counts(t, j, 4, 0, 0)
	stands(t, d, 5, at(record(1), 1, 0))
	stands(t, d, 7, at(record(3), 3, 0))
	if e := j.Cover(2); e != api.OK {
		t.Error(int(e))
	}
	counts(t, j, 4, 2, 0)
	add(t, j, 4, record(4))
	counts(t, j, 5, 1, 1)
	commit(t, j, api.OK)
	stands(t, d, 5, at(record(4), 4, 1))
	stands(t, d, 6, at(record(2), 2, 0))
}

// P11.2
func TestAddHasItsOwnSeqAndLap(t *testing.T) {
	d := device(t, 20)
	j := made(t, d, 0, 4, 9)
	r := record(6)
	r.Seq, r.Lap = 77, -5
	add(t, j, 10, r)
	commit(t, j, api.OK)
	stands(t, d, 1, at(record(6), 10, 2))
	add(t, j, 11, forms.Record{Op: journal.Drop, Block: 3})
	commit(t, j, api.OK)
	stands(t, d, 2, forms.Record{Seq: 11, Lap: 2, Op: 1, Block: 3})
}

// P11.2
func TestAddRefuses(t *testing.T) {
	d := device(t, 20)
	j := made(t, d, 0, 2, 0)
	for _, r := range []forms.Record{{Block: -1}, {Block: 4096}, {Op: 2}, {Op: -1}, {Slot: 1024}, {Sum: 1 << 32}, {Op: 1, Slot: 1}} {
		if seq, e := j.Add(r); seq != 0 || e != api.ErrRange {
			t.Error(r, seq, int(e))
		}
	}
	counts(t, j, 1, 2, 0)
	j = made(t, d, 0, 2, api.MaxSeq-1)
	add(t, j, api.MaxSeq, record(1))
	if seq, e := j.Add(forms.Record{Block: -1}); seq != 0 || e != api.ErrOver {
		t.Error(seq, int(e))
	}
	counts(t, j, api.MaxSeq+1, 1, 1)
	commit(t, j, api.OK)
	if e := j.Cover(api.MaxSeq); e != api.OK {
		t.Error(int(e))
	}
	counts(t, j, api.MaxSeq+1, 2, 0)
	stands(t, d, (api.MaxSeq-1)%2, at(record(1), api.MaxSeq, (api.MaxSeq-1)/2))
	j = made(t, d, 0, 1, api.MaxSeq-1)
	add(t, j, api.MaxSeq, record(1))
	if _, e := j.Add(record(2)); e != api.ErrFull {
		t.Error("ErrFull is told ahead of ErrOver", int(e))
	}
}

// P11.2
func TestCover(t *testing.T) {
	d := device(t, 20)
	j := made(t, d, 0, 5, 10)
	add(t, j, 11, record(1), record(2), record(3))
	for _, seq := range []int{9, 0, -1, 14, 15, most, least} {
		if e := j.Cover(seq); e != api.ErrOrder {
			t.Error(seq, int(e))
		}
	}
	counts(t, j, 14, 2, 3)
	if e := j.Cover(10); e != api.OK {
		t.Error("what is covered already", int(e))
	}
	counts(t, j, 14, 2, 3)
	if e := j.Cover(12); e != api.OK {
		t.Error(int(e))
	}
	counts(t, j, 14, 4, 1)
	if e := j.Cover(11); e != api.ErrOrder {
		t.Error(int(e))
	}
	commit(t, j, api.OK) // what is covered is not written any more
	stands(t, d, 2, at(record(3), 13, 2))
	for _, s := range []int{0, 1, 3, 4} {
		if b, _ := d.Read(s); b != (api.Block{}) {
			t.Error("sector", s, "was written")
		}
	}
	if e := j.Cover(13); e != api.OK {
		t.Error(int(e))
	}
	counts(t, j, 14, 5, 0)
}

// P11.3
func TestCommitFlushesFirst(t *testing.T) {
	d := device(t, 20)
	j := made(t, d, 0, 5, 0)
	d.Write(9, api.Block{1})
	commit(t, j, api.OK)
	if b, _ := d.Firm(9); b != (api.Block{1}) {
		t.Error("nothing waits, and nothing is flushed")
	}
	d.Plan(dev.Goes, dev.Fails)
	commit(t, j, api.OK)
	if d.Planned() != 1 {
		t.Error("nothing waits, and it is flushed twice")
	}
}

// P11.3
func TestCommitStopsAtTheFirstError(t *testing.T) {
	d := device(t, 20)
	j := made(t, d, 0, 5, 0)
	d.Write(9, api.Block{1})
	add(t, j, 1, record(1), record(2), record(3))
	if d.Open() != 1 {
		t.Error("Add writes")
	}
	d.Plan(dev.Fails)
	commit(t, j, api.ErrFlush)
	if d.Open() != 1 {
		t.Error("records were written ahead of the flush")
	}
	counts(t, j, 4, 2, 3)
	d.Plan(dev.Goes, dev.Goes, dev.Fails)
	commit(t, j, api.ErrWrite)
	if b, _ := d.Firm(9); b != (api.Block{1}) || d.Open() != 1 {
		t.Error("what came ahead is not firm, or it goes on", d.Open())
	}
	counts(t, j, 4, 2, 3)
	d.Plan(dev.Goes, dev.Goes, dev.Goes, dev.Goes, dev.Fails)
	commit(t, j, api.ErrFlush)
	if d.Open() != 3 || d.Planned() != 0 {
		t.Error("all are written", d.Open(), d.Planned())
	}
	counts(t, j, 4, 2, 3)
	commit(t, j, api.OK)
	counts(t, j, 4, 2, 0)
	for i := range 3 {
		stands(t, d, i, at(record(i+1), i+1, 0))
	}
	if d.Open() != 0 {
		t.Error("records are not firm")
	}
}

// P11.1, P11.2, P11.3
func TestNil(t *testing.T) {
	var j *journal.Journal
	seq, e := j.Add(record(1))
	if seq != 0 || e != api.ErrNil || j.Commit() != api.ErrNil || j.Cover(0) != api.ErrNil || len(j.Sectors()) != 0 {
		t.Error("nil")
	}
	counts(t, j, 0, 0, 0)
}

// P11.4
func TestScan(t *testing.T) {
	d := device(t, 20)
	for _, c := range wrong {
		if l, e := journal.Scan(d, c[0], c[1]); len(l) != 0 || e != api.ErrRange {
			t.Error(c, int(e))
		}
		if l, e := journal.Scan(nil, c[0], c[1]); len(l) != 0 || e != api.ErrNil {
			t.Error("nil", c, int(e))
		}
	}
	if l, e := journal.Scan(d, 5, 4); len(l) != 0 || e != api.OK {
		t.Error("nothing", l, int(e))
	}
	put := func(sector int, r forms.Record) {
		b, e := forms.PutRecord(r)
		if e != api.OK || d.Write(sector, b) != api.OK {
			t.Fatal(r, int(e))
		}
	}
	put(5, at(record(1), 9, 2))
	put(6, at(record(2), 6, 1))
	put(7, at(record(3), 7, 2)) // another lap
	put(8, at(record(4), 7, 1)) // another place
	put(9, at(record(5), 5, 1)) // not of this journal
	l, e := journal.Scan(d, 5, 4)
	if e != api.OK || !slices.Equal(l, []forms.Record{at(record(2), 6, 1), at(record(1), 9, 2)}) {
		t.Error(l, int(e))
	}
	page, _ := forms.PutPage(forms.Page{Of: 1})
	d.Write(6, page)
	torn, _ := forms.PutRecord(at(record(7), 4, 0))
	torn[5]++
	d.Write(8, torn)
	l, e = journal.Scan(d, 5, 4)
	if e != api.OK || !slices.Equal(l, []forms.Record{at(record(1), 9, 2)}) {
		t.Error(l, int(e))
	}
	d.Plan(dev.Goes, dev.Fails, dev.Fails)
	if l, e := journal.Scan(d, 5, 4); len(l) != 0 || e != api.ErrRead || d.Planned() != 1 {
		t.Error(l, int(e), d.Planned())
	}
}

// P11.4
func TestReplay(t *testing.T) {
	seqs := func(l ...int) (all []forms.Record) {
		for _, n := range l {
			all = append(all, forms.Record{Seq: n, Block: n & 15})
		}
		return all
	}
	for i, c := range []struct {
		l        []int
		after    int
		taken    []int
		greatest int
	}{
		{nil, 5, nil, 5}, {nil, -3, nil, -3},
		{[]int{1, 2, 3}, 0, []int{1, 2, 3}, 3},
		{[]int{1, 2, 3}, 1, []int{2, 3}, 3},
		{[]int{1, 2, 3}, 3, nil, 3},
		{[]int{1, 2, 3}, 9, nil, 9},
		{[]int{1, 2, 4, 5}, 0, []int{1, 2}, 5},
		{[]int{3, 4}, 1, nil, 4},
		{[]int{2, 1, 2, 7, 3}, 0, []int{1, 2, 3}, 7},
		{[]int{1, 1, 2, 2}, 0, []int{1, 2}, 2},
		{[]int{1, 2}, most, nil, most},
		{[]int{0, 1}, -1, []int{0, 1}, 1},
		{[]int{least, least + 1}, least, []int{least + 1}, least + 1},
	} {
		l := seqs(c.l...)
		taken, greatest := journal.Replay(l, c.after)
		if !slices.Equal(taken, seqs(c.taken...)) || greatest != c.greatest || !slices.Equal(l, seqs(c.l...)) {
			t.Error(i, taken, greatest)
		}
	}
}

// P11.5
func TestCrash(t *testing.T) {
	for ahead := range 7 { // records that were committed, and covered but for two
		d := device(t, 12)
		j := made(t, d, 3, 6, 0)
		var all []forms.Record
		put := func() {
			r := record(len(all) + 20)
			add(t, j, len(all)+1, r)
			all = append(all, at(r, len(all)+1, len(all)/6))
		}
		covered := 0
		for range ahead {
			put()
			commit(t, j, api.OK)
			if covered < len(all)-2 {
				covered = len(all) - 2
				j.Cover(covered)
			}
		}
		firm := len(all)
		for range 4 {
			put()
		}
		d.Plan(dev.Goes, dev.Goes, dev.Goes, dev.Goes, dev.Goes, dev.Fails)
		commit(t, j, api.ErrFlush)
		if d.Open() != 4 {
			t.Fatal(d.Open())
		}
		for kept := range 16 {
			c, _ := d.Crash(kept&1 > 0, kept&2 > 0, kept&4 > 0, kept&8 > 0)
			l, e := journal.Scan(c, 3, 6)
			taken, greatest := journal.Replay(l, covered)
			many := covered + len(taken)
			if e != api.OK || many < firm || many > len(all) || greatest < many {
				t.Fatal(ahead, kept, "there are", many, int(e))
			}
			if !slices.Equal(taken, all[covered:many]) {
				t.Fatal(ahead, kept, taken)
			}
			if kept == 15 && many != len(all) {
				t.Fatal("all were kept, but", len(all)-many)
			}
		}
	}
}
