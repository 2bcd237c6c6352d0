package forms_test

import (
	"testing"

	"lavabo/api"
	"lavabo/field"
	"lavabo/forms"
)

const sum = 1<<32 - 1

// sealed is a sector of numbers, each with its size.
func sealed(t *testing.T, l ...[2]int) api.Block {
	t.Helper()
	w := field.Write()
	for _, x := range l {
		w.Put(x[0], x[1])
	}
	b, e := w.Seal()
	if e != api.OK {
		t.Fatal(l, int(e))
	}
	return b
}

// kind is one of those that sectors are of: things of it that may be, such
// that may not, and how they are put and got.
type kind[T comparable] struct {
	kind  int
	put   func(x T) (api.Block, api.Errno)
	get   func(b api.Block) (T, api.Errno)
	good  []T
	wrong []T
	raw   func(x T) [][2]int // its numbers, as the words tell them
}

func (k kind[T]) test(t *testing.T) {
	t.Helper()
	var none T
	for _, x := range k.good {
		b, e := k.put(x)
		if e != api.OK || b != sealed(t, k.raw(x)...) {
			t.Fatalf("%+v: %v %d", x, b, int(e))
		}
		if y, e := k.get(b); y != x || e != api.OK {
			t.Errorf("%+v is got as %+v, %d", x, y, int(e))
		}
		if n, e := forms.Kind(b); n != k.kind || e != api.OK {
			t.Errorf("%+v: kind %d, %d", x, n, int(e))
		}
		k.spoil(t, b)
	}
	for _, x := range k.wrong {
		if b, e := k.put(x); b != (api.Block{}) || e != api.ErrRange {
			t.Errorf("%+v is put: %d", x, int(e))
		}
		l := k.raw(x)
		if !stands(l) {
			continue
		}
		if y, e := k.get(sealed(t, l...)); y != none || e != api.ErrForm {
			t.Errorf("%+v is got: %d", x, int(e))
		}
	}
}

// stands tells whether numbers fit into their bytes.
func stands(l [][2]int) bool {
	for _, x := range l {
		if x[0] < 0 || x[0]>>(8*x[1]) != 0 {
			return false
		}
	}
	return true
}

// spoil tells if a sector is got that is not whole, is of another kind, or has more in it.
func (k kind[T]) spoil(t *testing.T, b api.Block) {
	t.Helper()
	var none T
	for i := range b {
		other := b
		other[i] ^= 16
		if y, e := k.get(other); y != none || e != api.ErrSum {
			t.Errorf("byte %d is another one, and got: %d", i, int(e))
		}
		if n, e := forms.Kind(other); n != forms.None || e != api.ErrSum {
			t.Errorf("byte %d is another one, and of kind %d: %d", i, n, int(e))
		}
	}
	for n := range 256 {
		w := field.Write().Put(n, 1)
		for _, x := range b[1:60] {
			w.Put(int(x), 1)
		}
		other, _ := w.Seal()
		if y, e := k.get(other); n != k.kind && (y != none || e != api.ErrForm) {
			t.Errorf("got of the kind %d: %d", n, int(e))
		}
	}
	w := field.Write()
	for _, x := range b[:59] {
		w.Put(int(x), 1)
	}
	other, _ := w.Put(1, 1).Seal()
	if y, e := k.get(other); y != none || e != api.ErrForm {
		t.Errorf("got with more behind it: %d", int(e))
	}
}

func flag(b bool) int {
	if b {
		return 1
	}
	return 0
}

// turned is things, each of which is first but for what one function does.
func turned[T any](first T, l ...func(x *T)) (all []T) {
	for _, f := range l {
		x := first
		f(&x)
		all = append(all, x)
	}
	return all
}

// P6.1, P6.2, P6.3
func TestKinds(t *testing.T) {
	if forms.None != 0 || forms.Supers != 1 || forms.Records != 2 || forms.Pages != 3 || forms.Intents != 4 || forms.Certs != 5 || forms.Failures != 6 {
		t.Error("kinds are numbered otherwise")
	}
	for n := range 256 {
		got, e := forms.Kind(sealed(t, [2]int{n, 1}, [2]int{77, 1}))
		if n >= 1 && n <= 6 {
			if got != n || e != api.OK {
				t.Error(n, got, int(e))
			}
		} else if got != forms.None || e != api.ErrForm {
			t.Error(n, got, int(e))
		}
	}
	if n, e := forms.Kind(api.Block{}); n != forms.None || e != api.ErrSum {
		t.Error("noughts", n, int(e))
	}
}

// P6.1, P6.2, P6.3
func TestSuper(t *testing.T) {
	least := forms.Super{ID: 0, Blocks: 1, Slots: 1, Journal: 1, Pages: 1, Logs: 1, Batch: 1}
	great := forms.Super{ID: 1 << 40, Blocks: 4096, Slots: 1024, Journal: 4096, Pages: 4096, Logs: 4096, Batch: 64}
	kind[forms.Super]{
		kind: forms.Supers, put: forms.PutSuper, get: forms.GetSuper,
		good: []forms.Super{least, great, {ID: 9, Blocks: 300, Slots: 20, Journal: 513, Pages: 5, Logs: 7, Batch: 3}},
		wrong: append(turned(least,
			func(x *forms.Super) { x.ID = -1 },
			func(x *forms.Super) { x.Blocks = 0 },
			func(x *forms.Super) { x.Slots = 0 },
			func(x *forms.Super) { x.Journal = 0 },
			func(x *forms.Super) { x.Pages = 0 },
			func(x *forms.Super) { x.Logs = 0 },
			func(x *forms.Super) { x.Batch = 0 },
			func(x *forms.Super) { x.Blocks = -1 << 63 },
		), turned(great,
			func(x *forms.Super) { x.ID++ },
			func(x *forms.Super) { x.Blocks++ },
			func(x *forms.Super) { x.Slots++ },
			func(x *forms.Super) { x.Journal++ },
			func(x *forms.Super) { x.Pages++ },
			func(x *forms.Super) { x.Logs++ },
			func(x *forms.Super) { x.Batch++ },
			func(x *forms.Super) { x.ID = 1<<63 - 1 },
		)...),
		raw: func(x forms.Super) [][2]int {
			return [][2]int{{1, 1}, {x.ID, 6}, {x.Blocks, 2}, {x.Slots, 2}, {x.Journal, 2}, {x.Pages, 2}, {x.Logs, 2}, {x.Batch, 1}}
		},
	}.test(t)
}

// P6.1, P6.2, P6.3
func TestRecord(t *testing.T) {
	least := forms.Record{Seq: 1}
	great := forms.Record{Seq: 1 << 40, Lap: 1 << 40, Op: 0, Block: 4095, Slot: 1023, Dirty: true, Sum: sum}
	drop := forms.Record{Seq: 5, Lap: 2, Op: 1, Block: 4095}
	kind[forms.Record]{
		kind: forms.Records, put: forms.PutRecord, get: forms.GetRecord,
		good: []forms.Record{least, great, drop, {Seq: 300, Lap: 2, Block: 258, Slot: 515, Sum: 99}},
		wrong: append(append(turned(least,
			func(x *forms.Record) { x.Seq = 0 },
			func(x *forms.Record) { x.Lap = -1 },
			func(x *forms.Record) { x.Op = -1 },
			func(x *forms.Record) { x.Block = -1 },
			func(x *forms.Record) { x.Slot = -1 },
			func(x *forms.Record) { x.Sum = -1 },
			func(x *forms.Record) { x.Op = 2 },
		), turned(great,
			func(x *forms.Record) { x.Seq++ },
			func(x *forms.Record) { x.Lap++ },
			func(x *forms.Record) { x.Block++ },
			func(x *forms.Record) { x.Slot++ },
			func(x *forms.Record) { x.Sum++ },
			func(x *forms.Record) { x.Op = 1 },
		)...), turned(drop,
			func(x *forms.Record) { x.Slot = 1 },
			func(x *forms.Record) { x.Dirty = true },
			func(x *forms.Record) { x.Sum = 1 },
		)...),
		raw: func(x forms.Record) [][2]int {
			return [][2]int{{2, 1}, {x.Seq, 6}, {x.Lap, 6}, {x.Op, 1}, {x.Block, 2}, {x.Slot, 2}, {flag(x.Dirty), 1}, {x.Sum, 4}}
		},
	}.test(t)
	b := sealed(t, [2]int{2, 1}, [2]int{1, 6}, [2]int{0, 6}, [2]int{0, 1}, [2]int{0, 2}, [2]int{0, 2}, [2]int{2, 1})
	if x, e := forms.GetRecord(b); x != (forms.Record{}) || e != api.ErrForm {
		t.Error("dirty, and more than that", int(e))
	}
}

func rawPage(x forms.Page) [][2]int {
	l := [][2]int{{3, 1}, {x.Seq, 6}, {x.No, 2}, {x.Of, 2}, {x.Many, 1}}
	for _, e := range x.Entries {
		l = append(l, [2]int{e.Block, 2}, [2]int{e.Slot, 2}, [2]int{flag(e.Dirty), 1}, [2]int{e.Sum, 4})
	}
	return l
}

// P6.1, P6.2, P6.3
func TestPage(t *testing.T) {
	most := forms.Entry{Block: 4095, Slot: 1023, Dirty: true, Sum: sum}
	least := forms.Page{Of: 1}
	great := forms.Page{Seq: 1 << 40, No: 255, Of: 256, Many: 4, Entries: [forms.MostEntries]forms.Entry{most, most, most, most}}
	two := forms.Page{Seq: 3, No: 1, Of: 3, Many: 2, Entries: [forms.MostEntries]forms.Entry{{Block: 5, Slot: 1, Sum: 7}, {Block: 4, Slot: 2, Dirty: true}}}
	three := forms.Page{Of: 2, Many: 3} // entries of noughts
	kind[forms.Page]{
		kind: forms.Pages, put: forms.PutPage, get: forms.GetPage,
		good: []forms.Page{least, great, two, three},
		wrong: append(append(turned(least,
			func(x *forms.Page) { x.Seq = -1 },
			func(x *forms.Page) { x.No = -1 },
			func(x *forms.Page) { x.No = 1 },
			func(x *forms.Page) { x.Of = 0 },
			func(x *forms.Page) { x.Many = -1 },
			func(x *forms.Page) { x.Entries[0].Block = 1 },
			func(x *forms.Page) { x.Entries[0].Sum = 1 },
			func(x *forms.Page) { x.Entries[3].Dirty = true },
		), turned(great,
			func(x *forms.Page) { x.Seq++ },
			func(x *forms.Page) { x.No++ },
			func(x *forms.Page) { x.Of++ },
			func(x *forms.Page) { x.Of-- },
			func(x *forms.Page) { x.Many++ },
			func(x *forms.Page) { x.Many-- },
			func(x *forms.Page) { x.Entries[0].Block++ },
			func(x *forms.Page) { x.Entries[1].Slot++ },
			func(x *forms.Page) { x.Entries[3].Sum++ },
			func(x *forms.Page) { x.Entries[2].Slot = -1 },
		)...), turned(two,
			func(x *forms.Page) { x.Many = 1 },
			func(x *forms.Page) { x.Entries[2].Slot = 1 },
			func(x *forms.Page) { x.Entries[3].Block = 1 },
		)...),
		raw: rawPage,
	}.test(t)
	if forms.MostEntries != 4 || forms.MostSectors != 8 {
		t.Error("other limits")
	}
}

// spans are such that may not be.
func spans() []api.Span {
	return []api.Span{{From: -1, N: 1}, {From: 0, N: 0}, {From: 0, N: -1}, {From: 4096, N: 1}, {From: 0, N: 4097}, {From: 4095, N: 2}, {From: 1, N: 4096}, {From: 1<<63 - 1, N: 1}}
}

// P6.1, P6.2, P6.3
func TestIntent(t *testing.T) {
	least := forms.Intent{Span: api.Span{N: 1}}
	great := forms.Intent{ID: 1 << 40, Seq: 1 << 40, Span: api.Span{From: 4095, N: 1}}
	wrong := append(turned(least, func(x *forms.Intent) { x.ID = -1 }, func(x *forms.Intent) { x.Seq = -1 }),
		turned(great, func(x *forms.Intent) { x.ID++ }, func(x *forms.Intent) { x.Seq++ })...)
	for _, s := range spans() {
		wrong = append(wrong, forms.Intent{Span: s})
	}
	kind[forms.Intent]{
		kind: forms.Intents, put: forms.PutIntent, get: forms.GetIntent,
		good: []forms.Intent{least, great, {ID: 1, Seq: 2, Span: api.Span{N: 4096}}}, wrong: wrong,
		raw: func(x forms.Intent) [][2]int {
			return [][2]int{{4, 1}, {x.ID, 6}, {x.Seq, 6}, {x.Span.From, 2}, {x.Span.N, 2}}
		},
	}.test(t)
	b, e := forms.PutIntent(forms.Intent{ID: 5, Seq: 9, Span: api.Span{From: 3, N: 2}})
	want := [17]byte{4, 5, 0, 0, 0, 0, 0, 9, 0, 0, 0, 0, 0, 3, 0, 2, 0}
	if e != api.OK || [17]byte(b[:17]) != want || [43]byte(b[17:60]) != [43]byte{} || field.Sealed(b) != api.OK {
		t.Error("the example", b, int(e))
	}
}

// P6.1, P6.2, P6.3
func TestCert(t *testing.T) {
	least := forms.Cert{Span: api.Span{N: 1}}
	great := forms.Cert{ID: 1 << 40, Seq: 1 << 40, Span: api.Span{From: 4095, N: 1}, Sectors: 1 << 20, Steps: 1 << 20}
	wrong := append(turned(least,
		func(x *forms.Cert) { x.ID = -1 },
		func(x *forms.Cert) { x.Seq = -1 },
		func(x *forms.Cert) { x.Sectors = -1 },
		func(x *forms.Cert) { x.Steps = -1 },
	), turned(great,
		func(x *forms.Cert) { x.ID++ },
		func(x *forms.Cert) { x.Seq++ },
		func(x *forms.Cert) { x.Sectors++ },
		func(x *forms.Cert) { x.Steps++ },
	)...)
	for _, s := range spans() {
		wrong = append(wrong, forms.Cert{Span: s})
	}
	kind[forms.Cert]{
		kind: forms.Certs, put: forms.PutCert, get: forms.GetCert,
		good: []forms.Cert{least, great, {ID: 1, Seq: 2, Span: api.Span{From: 96, N: 4000}, Sectors: 66000, Steps: 3}}, wrong: wrong,
		raw: func(x forms.Cert) [][2]int {
			return [][2]int{{5, 1}, {x.ID, 6}, {x.Seq, 6}, {x.Span.From, 2}, {x.Span.N, 2}, {x.Sectors, 3}, {x.Steps, 3}}
		},
	}.test(t)
}

// P6.1, P6.2, P6.3
func TestFailure(t *testing.T) {
	least := forms.Failure{Span: api.Span{N: 1}, Many: 1}
	great := forms.Failure{ID: 1 << 40, Seq: 1 << 40, Span: api.Span{From: 4095, N: 1}, Many: 8, Sectors: [8]int{0, 1, 2, 3, 4, 5, 6, 1 << 20}}
	three := forms.Failure{Span: api.Span{N: 7}, Many: 3, Sectors: [8]int{4, 300, 70000}}
	wrong := append(append(turned(least,
		func(x *forms.Failure) { x.ID = -1 },
		func(x *forms.Failure) { x.Seq = -1 },
		func(x *forms.Failure) { x.Many = 0 },
		func(x *forms.Failure) { x.Sectors[0] = -1 },
		func(x *forms.Failure) { x.Sectors[7] = 1 },
	), turned(great,
		func(x *forms.Failure) { x.ID++ },
		func(x *forms.Failure) { x.Seq++ },
		func(x *forms.Failure) { x.Many++ },
		func(x *forms.Failure) { x.Many-- },
		func(x *forms.Failure) { x.Sectors[7]++ },
		func(x *forms.Failure) { x.Sectors[7] = 6 },
		func(x *forms.Failure) { x.Sectors[0] = 1 },
	)...), turned(three,
		func(x *forms.Failure) { x.Many = 2 },
		func(x *forms.Failure) { x.Many = 4 },
		func(x *forms.Failure) { x.Sectors[3] = 70001 },
		func(x *forms.Failure) { x.Sectors[1] = 3 },
		func(x *forms.Failure) { x.Sectors[2] = 300 },
	)...)
	for _, s := range spans() {
		wrong = append(wrong, forms.Failure{Span: s, Many: 1})
	}
	kind[forms.Failure]{
		kind: forms.Failures, put: forms.PutFailure, get: forms.GetFailure,
		good: []forms.Failure{least, great, three}, wrong: wrong,
		raw: func(x forms.Failure) [][2]int {
			l := [][2]int{{6, 1}, {x.ID, 6}, {x.Seq, 6}, {x.Span.From, 2}, {x.Span.N, 2}, {x.Many, 1}}
			for _, n := range x.Sectors {
				l = append(l, [2]int{n, 3})
			}
			return l
		},
	}.test(t)
}

// P6.2
func TestNoughtsAreNothing(t *testing.T) {
	var b api.Block
	for i, f := range []func() api.Errno{
		func() api.Errno { _, e := forms.GetSuper(b); return e },
		func() api.Errno { _, e := forms.GetRecord(b); return e },
		func() api.Errno { _, e := forms.GetPage(b); return e },
		func() api.Errno { _, e := forms.GetIntent(b); return e },
		func() api.Errno { _, e := forms.GetCert(b); return e },
		func() api.Errno { _, e := forms.GetFailure(b); return e },
	} {
		if e := f(); e != api.ErrSum {
			t.Error(i, int(e))
		}
	}
}
