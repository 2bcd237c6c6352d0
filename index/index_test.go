package index_test

import (
	"testing"

	"lavabo/api"
	"lavabo/index"
)

var everything = api.Span{From: 0, N: api.MaxSectors}

func made(t *testing.T, blocks, slots int) *index.Index {
	t.Helper()
	x, e := index.New(blocks, slots)
	if x == nil || e != api.OK {
		t.Fatal("no index", int(e))
	}
	return x
}

// puts tells if a block is not put, or was elsewhere.
func puts(t *testing.T, x *index.Index, block, slot int, dirty bool, was index.Place) {
	t.Helper()
	if p, e := x.Put(block, index.Place{Slot: slot, Dirty: dirty}); p != was || e != api.OK {
		t.Errorf("block %d was at %v, %d", block, p, int(e))
	}
}

// is tells if an index has other places.
func is(t *testing.T, x *index.Index, blocks, slots int, want map[int]index.Place) {
	t.Helper()
	at, dirty := map[int]int{}, 0
	for b := range blocks {
		p, in := want[b]
		e := api.ErrNone
		if in {
			e = api.OK
			at[p.Slot] = b
		}
		if p.Dirty {
			dirty++
		}
		if got, f := x.Get(b); got != p || f != e {
			t.Errorf("block %d: %v %d", b, got, int(f))
		}
	}
	for s := range slots {
		b, in := at[s]
		e := api.ErrNone
		if in {
			e = api.OK
		}
		if got, f := x.At(s); got != b || f != e {
			t.Errorf("slot %d: %d %d", s, got, int(f))
		}
	}
	if x.Len() != len(want) || x.Dirty() != dirty {
		t.Errorf("%d blocks, %d dirty", x.Len(), x.Dirty())
	}
	last, n := -1, 0
	for b, p := range x.All(everything) {
		if b <= last || p != want[b] {
			t.Errorf("block %d behind %d: %v", b, last, p)
		}
		last = b
		n++
	}
	if n != len(want) {
		t.Error(n, "blocks are gone through")
	}
}

var nowhere = index.Place{Slot: index.Nowhere}

// P9.1
func TestNew(t *testing.T) {
	for _, n := range [][2]int{{1, 1}, {4096, 1024}, {3, 9}} {
		is(t, made(t, n[0], n[1]), n[0], n[1], nil)
	}
	for _, n := range [][2]int{{0, 1}, {-1, 1}, {4097, 1}, {1, 0}, {1, -1}, {1, 1025}, {-1 << 63, 1}, {1, 1<<63 - 1}} {
		if x, e := index.New(n[0], n[1]); x != nil || e != api.ErrSize {
			t.Error(n, int(e))
		}
	}
	if index.Nowhere != -1 {
		t.Error("Nowhere")
	}
}

// P9.1
func TestPut(t *testing.T) {
	x := made(t, 8, 5)
	puts(t, x, 5, 2, true, nowhere)
	if p, e := x.Put(6, index.Place{Slot: 2}); p != (index.Place{}) || e != api.ErrThere {
		t.Error("another block is there", p, int(e))
	}
	puts(t, x, 5, 3, false, index.Place{Slot: 2, Dirty: true})
	is(t, x, 8, 5, map[int]index.Place{5: {Slot: 3}})
	puts(t, x, 5, 3, true, index.Place{Slot: 3})
	puts(t, x, 5, 3, true, index.Place{Slot: 3, Dirty: true})
	puts(t, x, 6, 2, false, nowhere)
	puts(t, x, 0, 0, false, nowhere)
	puts(t, x, 7, 4, true, nowhere)
	want := map[int]index.Place{5: {Slot: 3, Dirty: true}, 6: {Slot: 2}, 0: {Slot: 0}, 7: {Slot: 4, Dirty: true}}
	is(t, x, 8, 5, want)
	for _, c := range [][2]int{{-1, 1}, {8, 1}, {1, -1}, {1, 5}, {1<<63 - 1, 1}, {-1 << 63, 1}, {1, 1<<63 - 1}, {1, -1 << 63}, {-1, 3}, {5, index.Nowhere}} {
		if p, e := x.Put(c[0], index.Place{Slot: c[1], Dirty: true}); p != (index.Place{}) || e != api.ErrRange {
			t.Error(c, p, int(e))
		}
	}
	is(t, x, 8, 5, want)
}

// P9.1
func TestDropAndClean(t *testing.T) {
	x := made(t, 4, 4)
	puts(t, x, 1, 3, true, nowhere)
	puts(t, x, 2, 0, true, nowhere)
	if e := x.Clean(1); e != api.OK {
		t.Error(int(e))
	}
	if e := x.Clean(1); e != api.OK {
		t.Error("what is clean is cleaned again", int(e))
	}
	is(t, x, 4, 4, map[int]index.Place{1: {Slot: 3}, 2: {Slot: 0, Dirty: true}})
	if p, e := x.Drop(2); p != (index.Place{Slot: 0, Dirty: true}) || e != api.OK {
		t.Error(p, int(e))
	}
	if p, e := x.Drop(2); p != (index.Place{}) || e != api.ErrNone || x.Clean(2) != api.ErrNone {
		t.Error("it is nowhere", p, int(e))
	}
	is(t, x, 4, 4, map[int]index.Place{1: {Slot: 3}})
	for _, b := range []int{-1, 4, -1 << 63, 1<<63 - 1} {
		p, e := x.Drop(b)
		q, f := x.Get(b)
		if p != (index.Place{}) || e != api.ErrRange || q != (index.Place{}) || f != api.ErrRange || x.Clean(b) != api.ErrRange {
			t.Error(b, int(e), int(f))
		}
		if n, e := x.At(b); n != 0 || e != api.ErrRange {
			t.Error("At", b, int(e))
		}
	}
	puts(t, x, 3, 0, false, nowhere)
	puts(t, x, 2, 1, false, nowhere)
}

// P9.2
func TestAllOfSpans(t *testing.T) {
	x := made(t, 6, 6)
	for _, b := range []int{0, 2, 3, 5} {
		puts(t, x, b, 5-b, b == 3, nowhere)
	}
	const most, least = 1<<63 - 1, -1 << 63
	for from := -2; from < 9; from++ {
		for _, n := range []int{-1, 0, 1, 2, 3, 6, 100, most, least} {
			var want []int
			for b := 0; b < 6 && from >= 0 && n >= 0; b++ {
				if b >= from && b-from < n && b != 1 && b != 4 {
					want = append(want, b)
				}
			}
			var got []int
			for b, p := range x.All(api.Span{From: from, N: n}) {
				if p != (index.Place{Slot: 5 - b, Dirty: b == 3}) {
					t.Error(b, p)
				}
				got = append(got, b)
			}
			if len(got) != len(want) {
				t.Error(from, n, got, want)
			}
			for i := range got {
				if i < len(want) && got[i] != want[i] {
					t.Error(from, n, got, want)
				}
			}
		}
	}
	for _, s := range []api.Span{{From: most, N: most}, {From: least, N: least}, {From: least, N: most}, {From: most, N: 0}} {
		for b := range x.All(s) {
			t.Error(s, b)
		}
	}
}

// P9.2
func TestAllTellsOfWhenItWasAskedFor(t *testing.T) {
	x := made(t, 4, 4)
	puts(t, x, 1, 1, true, nowhere)
	puts(t, x, 3, 3, false, nowhere)
	all := x.All(everything)
	x.Drop(1)
	puts(t, x, 0, 0, false, nowhere)
	for range 2 {
		var l []int
		for b, p := range all {
			if p != (index.Place{Slot: b, Dirty: b == 1}) {
				t.Error(b, p)
			}
			l = append(l, b)
		}
		if len(l) != 2 || l[0] != 1 || l[1] != 3 {
			t.Error(l)
		}
	}
	for b := range x.All(everything) { // blocks may go meanwhile
		x.Drop(b)
	}
	is(t, x, 4, 4, nil)
	for b := range all {
		if b != 1 {
			t.Error("it goes on")
		}
		break
	}
}

// P9.2
func TestCopy(t *testing.T) {
	x := made(t, 4, 4)
	puts(t, x, 1, 1, true, nowhere)
	c := x.Copy()
	puts(t, c, 2, 2, false, nowhere)
	c.Clean(1)
	x.Drop(1)
	is(t, x, 4, 4, nil)
	is(t, c, 4, 4, map[int]index.Place{1: {Slot: 1}, 2: {Slot: 2}})
	if c.Copy() == c {
		t.Error("no copy")
	}
}

// P9.1, P9.2
func TestNil(t *testing.T) {
	var x *index.Index
	p, e := x.Put(0, index.Place{})
	q, f := x.Get(0)
	r, g := x.Drop(0)
	n, h := x.At(0)
	if e != api.ErrNil || f != api.ErrNil || g != api.ErrNil || h != api.ErrNil || x.Clean(-1) != api.ErrNil {
		t.Error("errors of nil")
	}
	if p != (index.Place{}) || q != p || r != p || n != 0 || x.Len() != 0 || x.Dirty() != 0 || x.Copy() != nil {
		t.Error("answers of nil")
	}
	for b := range x.All(everything) {
		t.Error(b)
	}
}

// P9.1, P9.3
func TestAgainstAMap(t *testing.T) {
	x, model := made(t, 6, 4), map[int]index.Place{}
	n := 9
	for range 3000 {
		n = (n*1103515245 + 12345) & (1<<31 - 1)
		b, p := n>>8%6, index.Place{Slot: n >> 12 % 4, Dirty: n>>16%2 == 0}
		was, in := model[b]
		switch n >> 20 % 4 {
		case 0:
			if _, e := x.Drop(b); (e == api.OK) != in {
				t.Fatal(b, int(e))
			}
			delete(model, b)
		case 1:
			if e := x.Clean(b); (e == api.OK) != in {
				t.Fatal(b, int(e))
			}
			if in {
				model[b] = index.Place{Slot: was.Slot}
			}
		default:
			want := api.OK
			for c, q := range model {
				if c != b && q.Slot == p.Slot {
					want = api.ErrThere
				}
			}
			before := x.Copy()
			got, e := x.Put(b, p)
			if e != want {
				t.Fatal(b, p, int(e))
			}
			if e != api.OK {
				break
			}
			model[b] = p
			undo := x.Copy()
			if got.Slot == index.Nowhere {
				undo.Drop(b)
			} else {
				undo.Put(b, got)
			}
			same(t, undo, before)
		}
		is(t, x, 6, 4, model)
	}
}

// same tells if two indexes of 6 blocks and 4 slots have other places.
func same(t *testing.T, a, b *index.Index) {
	t.Helper()
	for n := range 6 {
		p, e := a.Get(n)
		if q, f := b.Get(n); p != q || e != f {
			t.Fatal("it is not undone", n, p, q)
		}
		if e != api.OK {
			continue
		}
		if at, e := a.At(p.Slot); at != n || e != api.OK {
			t.Fatal("At of Get's slot", n, at)
		}
	}
}
