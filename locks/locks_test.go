package locks_test

import (
	"maps"
	"slices"
	"testing"

	"lavabo/api"
	"lavabo/locks"
)

const (
	most  = 1<<63 - 1
	least = -1 << 63
)

func made(t *testing.T, blocks int) *locks.Locks {
	t.Helper()
	l, e := locks.New(blocks)
	if l == nil || e != api.OK {
		t.Fatal("no locks", int(e))
	}
	return l
}

func lock(t *testing.T, l *locks.Locks, id, from, n int, want api.Errno) {
	t.Helper()
	if e := l.Lock(id, api.Span{From: from, N: n}); e != want {
		t.Errorf("Lock %d of %d %d: %d, not %d", id, from, n, int(e), int(want))
	}
}

// are tells if there are other locks.
func are(t *testing.T, l *locks.Locks, want map[int]api.Span) {
	t.Helper()
	if l.Len() != len(want) {
		t.Error("Len", l.Len())
	}
	var ids []int
	for id, s := range l.All() {
		if s != want[id] {
			t.Errorf("lock %d has %v", id, s)
		}
		ids = append(ids, id)
	}
	if !slices.Equal(ids, slices.Sorted(maps.Keys(want))) {
		t.Error("other locks", ids)
	}
	for b := -1; b < 12; b++ {
		id, locked := 0, false
		for i, s := range want {
			if b >= s.From && b < s.From+s.N {
				id, locked = i, true
			}
		}
		if got, ok := l.Holder(b); got != id || ok != locked {
			t.Errorf("block %d is of %d, %v", b, got, ok)
		}
	}
}

// P10.1
func TestNew(t *testing.T) {
	for _, n := range []int{1, 9, 4096} {
		l := made(t, n)
		are(t, l, nil)
		lock(t, l, 0, 0, n, api.OK)
		lock(t, l, 1, 0, n+1, api.ErrRange)
	}
	for _, n := range []int{0, -1, 4097, most, least} {
		if l, e := locks.New(n); l != nil || e != api.ErrSize {
			t.Error(n, int(e))
		}
	}
}

// P10.1
func TestLock(t *testing.T) {
	l := made(t, 10)
	lock(t, l, 7, 2, 3, api.OK)
	lock(t, l, 8, 4, 1, api.ErrBusy)
	lock(t, l, 8, 0, 3, api.ErrBusy)
	lock(t, l, 8, 3, 1, api.ErrBusy)
	lock(t, l, 8, 0, 10, api.ErrBusy)
	lock(t, l, 7, 8, 1, api.ErrThere)
	lock(t, l, 7, 2, 3, api.ErrThere)
	are(t, l, map[int]api.Span{7: {From: 2, N: 3}})
	lock(t, l, most, 5, 5, api.OK)
	lock(t, l, 0, 0, 2, api.OK)
	are(t, l, map[int]api.Span{7: {From: 2, N: 3}, most: {From: 5, N: 5}, 0: {From: 0, N: 2}})
}

var outside = []api.Span{{From: 0, N: 0}, {From: -1, N: 2}, {From: 10, N: 1}, {From: 10, N: 0}, {From: 5, N: 6}, {From: 0, N: 11}, {From: 3, N: -1}, {From: most, N: 1}, {From: 1, N: most}, {From: most, N: most}, {From: least, N: least}}

// P10.1, P10.2
func TestRefused(t *testing.T) {
	l := made(t, 10)
	lock(t, l, 1, 3, 4, api.OK)
	for _, s := range outside {
		lock(t, l, 2, s.From, s.N, api.ErrRange)
		lock(t, l, 1, s.From, s.N, api.ErrRange)
		lock(t, l, -1, s.From, s.N, api.ErrArg)
		if e := l.Free(s); e != api.ErrRange {
			t.Error("Free", s, int(e))
		}
	}
	lock(t, l, -1, 0, 1, api.ErrArg)
	lock(t, l, least, 3, 1, api.ErrArg)
	are(t, l, map[int]api.Span{1: {From: 3, N: 4}})
}

// P10.1
func TestUnlock(t *testing.T) {
	l := made(t, 10)
	lock(t, l, 7, 2, 3, api.OK)
	lock(t, l, 9, 5, 2, api.OK)
	for _, id := range []int{8, -1, 0, most} {
		if s, e := l.Unlock(id); s != (api.Span{}) || e != api.ErrNone {
			t.Error(id, s, int(e))
		}
	}
	if s, e := l.Unlock(7); s != (api.Span{From: 2, N: 3}) || e != api.OK {
		t.Error(s, int(e))
	}
	are(t, l, map[int]api.Span{9: {From: 5, N: 2}})
	if s, e := l.Unlock(7); s != (api.Span{}) || e != api.ErrNone {
		t.Error("it is gone", s, int(e))
	}
	lock(t, l, 7, 0, 5, api.OK)
}

// P10.2
func TestFree(t *testing.T) {
	l := made(t, 10)
	if l.Free(api.Span{From: 0, N: 10}) != api.OK {
		t.Error("all are free")
	}
	lock(t, l, 3, 4, 2, api.OK)
	for from := range 10 {
		for n := 1; from+n <= 10; n++ {
			want := api.OK
			if from < 6 && from+n > 4 {
				want = api.ErrBusy
			}
			if e := l.Free(api.Span{From: from, N: n}); e != want {
				t.Error(from, n, int(e))
			}
		}
	}
	l.Unlock(3)
	if l.Free(api.Span{From: 0, N: 9}) != api.OK {
		t.Error("what is unlocked is free")
	}
}

// P10.2
func TestHolderOfNoBlock(t *testing.T) {
	l := made(t, 10)
	lock(t, l, 3, 0, 10, api.OK)
	for _, b := range []int{-1, 10, most, least} {
		if id, ok := l.Holder(b); id != 0 || ok {
			t.Error(b, id, ok)
		}
	}
}

// P10.2
func TestAllTellsOfWhenItWasAskedFor(t *testing.T) {
	l := made(t, 10)
	lock(t, l, 5, 0, 1, api.OK)
	lock(t, l, 2, 1, 1, api.OK)
	all := l.All()
	l.Unlock(5)
	lock(t, l, 1, 5, 1, api.OK)
	for range 2 {
		var ids []int
		for id := range all {
			ids = append(ids, id)
		}
		if !slices.Equal(ids, []int{2, 5}) {
			t.Error(ids)
		}
	}
	for id := range l.All() {
		l.Unlock(id)
		break
	}
	are(t, l, map[int]api.Span{2: {From: 1, N: 1}})
}

// P10.1, P10.2
func TestNil(t *testing.T) {
	var l *locks.Locks
	s, e := l.Unlock(-1)
	lock(t, l, -1, 0, 1, api.ErrNil)
	if s != (api.Span{}) || e != api.ErrNil || l.Free(s) != api.ErrNil {
		t.Error("errors of nil")
	}
	are(t, l, nil)
}

// P10.3
func TestLockIsOKJustIfFreeIs(t *testing.T) {
	l, model := made(t, 10), map[int]api.Span{}
	n := 4
	for range 3000 {
		n = (n*1103515245 + 12345) & (1<<31 - 1)
		id, s := n>>8%6-1, api.Span{From: n>>12%12 - 1, N: n >> 16 % 5}
		if n>>20%2 == 0 {
			was, in := model[id]
			if got, e := l.Unlock(id); got != was || (e == api.OK) != in {
				t.Fatal(id, got, int(e))
			}
			delete(model, id)
			if in && l.Free(was) != api.OK {
				t.Fatal("what is unlocked is not free")
			}
			continue
		}
		free := l.Free(s)
		_, taken := model[id]
		if e := l.Lock(id, s); (e == api.OK) != (free == api.OK && id >= 0 && !taken) {
			t.Fatal(id, s, int(e), int(free))
		} else if e == api.OK {
			model[id] = s
		}
		are(t, l, model)
	}
}
