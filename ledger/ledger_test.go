package ledger_test

import (
	"bytes"
	"slices"
	"testing"

	"lavabo/api"
	"lavabo/ledger"
)

const most, least = 1<<63 - 1, -1 << 63

var everything = api.Span{From: 0, N: api.MaxSectors}

func made(t *testing.T, slots, blocks int) *ledger.Ledger {
	t.Helper()
	l, e := ledger.New(slots, blocks)
	if l == nil || e != api.OK {
		t.Fatal("no ledger", int(e))
	}
	return l
}

func put(t *testing.T, l *ledger.Ledger, slot int, blocks ...int) {
	t.Helper()
	for _, b := range blocks {
		if e := l.Put(slot, b); e != api.OK {
			t.Errorf("Put %d %d: %d", slot, b, int(e))
		}
	}
}

// owned tells if a slot has other owners.
func owned(t *testing.T, l *ledger.Ledger, slot int, want ...int) {
	t.Helper()
	got, e := l.Owners(slot)
	if e != api.OK || !slices.Equal(got, want) {
		t.Errorf("slot %d: %v %d, not %v", slot, got, int(e), want)
	}
}

// P12.1
func TestNew(t *testing.T) {
	for _, n := range [][2]int{{1, 1}, {1024, 4096}, {5, 3}} {
		l := made(t, n[0], n[1])
		for slot := range n[0] {
			owned(t, l, slot)
		}
		if l.Put(n[0], 0) != api.ErrRange || l.Put(0, n[1]) != api.ErrRange || l.Put(n[0]-1, n[1]-1) != api.OK {
			t.Error(n)
		}
	}
	for _, n := range [][2]int{{0, 1}, {-1, 1}, {1025, 1}, {1, 0}, {1, -1}, {1, 4097}, {most, 1}, {1, least}} {
		if l, e := ledger.New(n[0], n[1]); l != nil || e != api.ErrSize {
			t.Error(n, int(e))
		}
	}
	if ledger.Any != -1 {
		t.Error("Any")
	}
}

// P12.1
func TestPutAndScrub(t *testing.T) {
	l := made(t, 6, 10)
	put(t, l, 3, 7, 5, 7, 0, 9)
	put(t, l, 2, 5)
	owned(t, l, 3, 0, 5, 7, 9)
	owned(t, l, 2, 5)
	if e := l.Scrub(3); e != api.OK {
		t.Error(int(e))
	}
	owned(t, l, 3)
	owned(t, l, 2, 5)
	if e := l.Scrub(3); e != api.OK {
		t.Error(int(e))
	}
	put(t, l, 3, 1)
	owned(t, l, 3, 1)
}

// P12.1
func TestAny(t *testing.T) {
	l := made(t, 6, 10)
	put(t, l, 1, 4, ledger.Any)
	owned(t, l, 1, ledger.Any)
	put(t, l, 1, 5, ledger.Any, 4)
	owned(t, l, 1, ledger.Any)
	l.Scrub(1)
	owned(t, l, 1)
	put(t, l, 1, 5)
	owned(t, l, 1, 5)
}

// P12.1
func TestRefused(t *testing.T) {
	l := made(t, 6, 10)
	put(t, l, 0, 1)
	put(t, l, 5, ledger.Any)
	was := l.Copy()
	for _, slot := range []int{-1, 6, most, least} {
		owners, e := l.Owners(slot)
		if len(owners) != 0 || e != api.ErrRange || l.Put(slot, 1) != api.ErrRange || l.Scrub(slot) != api.ErrRange || l.May(slot, everything) {
			t.Error("slot", slot)
		}
	}
	for _, b := range []int{-2, 10, most, least} {
		if l.Put(0, b) != api.ErrRange || l.Put(5, b) != api.ErrRange {
			t.Error("block", b)
		}
	}
	if !ledger.Same(l, was) {
		t.Error("it turned")
	}
}

// P12.1
func TestOwnersAreTheCallers(t *testing.T) {
	l := made(t, 2, 10)
	put(t, l, 0, 1, 2)
	got, _ := l.Owners(0)
	got[0] = 9
	owned(t, l, 0, 1, 2)
}

// P12.2
func TestMay(t *testing.T) {
	l := made(t, 3, 10)
	put(t, l, 0, 0, 7, 5)
	put(t, l, 1, ledger.Any)
	for _, from := range []int{least, least + 1, -10, -1, 0, 1, 4, 5, 6, 7, 8, 9, 10, most - 1, most} {
		for _, n := range []int{least, -1, 0, 1, 2, 3, 11, most} {
			s := api.Span{From: from, N: n}
			owner := false
			for _, b := range []int{0, 5, 7} {
				owner = owner || n > 0 && from <= b && b-n < from // from + n may be no int
			}
			if l.May(0, s) != owner {
				t.Error("owners", s, !owner)
			}
			if l.May(1, s) != (n > 0) || l.May(2, s) {
				t.Error("any, or none", s)
			}
		}
	}
	if !l.May(0, api.Span{From: 6, N: 3}) || l.May(0, api.Span{From: 1, N: 4}) || !l.May(0, api.Span{From: -5, N: most}) {
		t.Error("examples")
	}
}

// P12.2
func TestSlots(t *testing.T) {
	l := made(t, 5, 10)
	put(t, l, 4, 3)
	put(t, l, 2, ledger.Any)
	put(t, l, 0, 4, 9)
	for _, c := range []struct {
		from, n int
		want    []int
	}{
		{3, 1, []int{2, 4}}, {4, 1, []int{0, 2}}, {3, 2, []int{0, 2, 4}}, {5, 4, []int{2}}, {0, 10, []int{0, 2, 4}},
		{0, 0, nil}, {3, -1, nil}, {-5, 1, []int{2}}, {50, 1, []int{2}},
	} {
		if got := l.Slots(api.Span{From: c.from, N: c.n}); !slices.Equal(got, c.want) {
			t.Error(c, got)
		}
	}
}

// P12.2
func TestCopyAndSame(t *testing.T) {
	l := made(t, 3, 10)
	put(t, l, 0, 1)
	put(t, l, 1, ledger.Any)
	for i, turn := range []func(l *ledger.Ledger){
		func(l *ledger.Ledger) { l.Put(0, 2) },
		func(l *ledger.Ledger) { l.Put(2, 1) },
		func(l *ledger.Ledger) { l.Put(2, ledger.Any) },
		func(l *ledger.Ledger) { l.Scrub(0) },
		func(l *ledger.Ledger) { l.Scrub(1) },
	} {
		a, b := l.Copy(), l.Copy()
		turn(a)
		if !ledger.Same(l, b) || ledger.Same(a, b) || ledger.Same(b, a) {
			t.Error(i)
		}
		c := a.Copy()
		turn(b)
		if !ledger.Same(b, c) {
			t.Error(i, "they turned the same way")
		}
	}
	if ledger.Same(made(t, 3, 10), made(t, 3, 9)) || ledger.Same(made(t, 3, 10), made(t, 4, 10)) || !ledger.Same(made(t, 3, 10), made(t, 3, 10)) {
		t.Error("sizes")
	}
	if !ledger.Same(nil, nil) || ledger.Same(l, nil) || ledger.Same(nil, l) {
		t.Error("Same of nil")
	}
}

// P12.3
func TestEncode(t *testing.T) {
	l := made(t, 4, 300)
	put(t, l, 0, 258, 7)
	put(t, l, 2, ledger.Any)
	put(t, l, 3, 299)
	want := []byte{4, 0, 44, 1, 2, 0, 7, 0, 2, 1, 0, 0, 255, 255, 1, 0, 43, 1}
	if b := l.Encode(); !bytes.Equal(b, want) {
		t.Error(b)
	}
	if d, e := ledger.Decode(want); e != api.OK || !ledger.Same(d, l) {
		t.Error(int(e))
	}
	d, _ := ledger.Decode(want)
	for i := range want {
		want[i] = 0
	}
	if !ledger.Same(d, l) {
		t.Error("it hangs on what was handed in")
	}
}

// P12.3
func TestDecodeRefuses(t *testing.T) {
	good := []byte{2, 0, 9, 0, 2, 0, 3, 0, 8, 0, 255, 255}
	if _, e := ledger.Decode(good); e != api.OK {
		t.Fatal(int(e))
	}
	for n := range good {
		if l, e := ledger.Decode(good[:n:n]); l != nil || e != api.ErrForm {
			t.Error("too short", n, int(e))
		}
	}
	for i, b := range [][]byte{
		append(slices.Clone(good), 0),
		{1, 0, 9, 0, 2, 0, 8, 0, 3, 0},              // they do not rise
		{1, 0, 9, 0, 2, 0, 3, 0, 3, 0},              // twice the same
		{1, 0, 9, 0, 1, 0, 9, 0},                    // no block
		{1, 0, 9, 0, 1, 0, 255, 255},                // no block either
		{1, 0, 9, 0, 254, 255},                      // too many
		{1, 0, 9, 0, 255, 255, 3, 0},                // owners behind any
		{1, 0, 9, 0, 0, 0, 0, 0},                    // a slot too many
		{1, 0, 2, 0, 3, 0, 0, 0, 1, 0, 2, 0},        // more than there are blocks
		{2, 0, 9, 0, 1, 0, 3, 0, 1, 0, 4, 0, 5},     // half a number
		{2, 0, 9, 0, 2, 0, 3, 0, 8, 0, 255, 255, 1}, // half a number behind
	} {
		if l, e := ledger.Decode(b); l != nil || e != api.ErrForm {
			t.Error(i, int(e))
		}
	}
	for i, b := range [][]byte{{0, 0, 1, 0}, {1, 0, 0, 0}, {1, 4, 1, 0}, {1, 0, 1, 16}, {255, 255, 255, 255}, {0, 0, 1, 0, 9, 9, 9}} {
		if l, e := ledger.Decode(b); l != nil || e != api.ErrSize {
			t.Error(i, int(e))
		}
	}
	if l, e := ledger.Decode(nil); l != nil || e != api.ErrForm {
		t.Error(int(e))
	}
}

// P12.1, P12.2, P12.3
func TestNil(t *testing.T) {
	var l *ledger.Ledger
	owners, e := l.Owners(0)
	if len(owners) != 0 || e != api.ErrNil || l.Put(-1, -5) != api.ErrNil || l.Scrub(0) != api.ErrNil {
		t.Error("errors of nil")
	}
	if l.May(0, everything) || len(l.Slots(everything)) != 0 || len(l.Encode()) != 0 || l.Copy() != nil {
		t.Error("answers of nil")
	}
}

// P12.4
func TestAgainstSets(t *testing.T) {
	l := made(t, 3, 8)
	model := make([]map[int]bool, 3)
	n := 2
	for range 1500 {
		n = (n*1103515245 + 12345) & (1<<31 - 1)
		slot, block := n>>8%3, n>>12%9-1
		if model[slot] == nil || n>>20%8 == 0 {
			model[slot] = map[int]bool{}
			l.Scrub(slot)
		}
		if block >= 0 || n>>24%4 == 0 {
			put(t, l, slot, block)
			if block < 0 {
				model[slot] = map[int]bool{}
			}
			model[slot][block] = !model[slot][ledger.Any] || block < 0
		}
		for s, m := range model {
			var want []int
			for b := -1; b < 8; b++ {
				if m[b] {
					want = append(want, b)
				}
				if l.May(s, api.Span{From: b, N: 1}) != (m[b] || m[ledger.Any]) {
					t.Fatal("May", s, b)
				}
			}
			owned(t, l, s, want...)
		}
		d, e := ledger.Decode(l.Encode())
		if e != api.OK || !ledger.Same(d, l) || !bytes.Equal(d.Encode(), l.Encode()) {
			t.Fatal("Decode of Encode", int(e))
		}
	}
}
