package ring_test

import (
	"slices"
	"testing"

	"lavabo/api"
	"lavabo/ring"
)

func filled(t *testing.T, most int, l ...int) *ring.Ring[int] {
	t.Helper()
	r, e := ring.New[int](most)
	if r == nil || e != api.OK {
		t.Fatal("no ring", int(e))
	}
	for _, x := range l {
		if e := r.Put(x); e != api.OK {
			t.Fatal("Put", x, int(e))
		}
	}
	return r
}

// P2.1
func TestNew(t *testing.T) {
	for _, n := range []int{1, 2, 1023, 1024} {
		r, e := ring.New[string](n)
		if r == nil || e != api.OK || r.Len() != 0 || r.Room() != n || r.Closed() {
			t.Errorf("%d: %d", n, int(e))
		}
	}
	for _, n := range []int{0, -1, 1025, -1 << 63, 1<<63 - 1} {
		if r, e := ring.New[string](n); r != nil || e != api.ErrSize {
			t.Errorf("%d: %d", n, int(e))
		}
	}
}

// P2.1
func TestPutAndTake(t *testing.T) {
	r := filled(t, 2, 1, 2)
	if e := r.Put(3); e != api.ErrFull {
		t.Error("a third one of two", int(e))
	}
	if x, e := r.Take(); x != 1 || e != api.OK {
		t.Error("the first one", x, int(e))
	}
	if e := r.Put(3); e != api.OK {
		t.Error("there is room again", int(e))
	}
	if x, e := r.Take(); x != 2 || e != api.OK {
		t.Error("the second one", x, int(e))
	}
	if x, e := r.Take(); x != 3 || e != api.OK {
		t.Error("the third one", x, int(e))
	}
	if x, e := r.Take(); x != 0 || e != api.ErrNone {
		t.Error("none", x, int(e))
	}
}

// P2.1
func TestMostThings(t *testing.T) {
	r := filled(t, api.MaxRing)
	for i := range api.MaxRing {
		if e := r.Put(i); e != api.OK {
			t.Fatal(i, int(e))
		}
	}
	if e := r.Put(-1); e != api.ErrFull || r.Room() != 0 || r.Len() != api.MaxRing {
		t.Error("one more", int(e))
	}
}

// P2.2
func TestCloseLeavesWhatIsIn(t *testing.T) {
	r := filled(t, 3, 7, 8)
	if r.Closed() || r.Close() != api.OK || !r.Closed() {
		t.Error("it is not closed")
	}
	if r.Close() != api.ErrState {
		t.Error("it was closed twice")
	}
	if e := r.Put(9); e != api.ErrState || r.Room() != 0 || r.Len() != 2 {
		t.Error("a thing came in", int(e))
	}
	if x, e := r.Take(); x != 7 || e != api.OK {
		t.Error("what is in stays", x, int(e))
	}
	if l := r.Drain(); !slices.Equal(l, []int{8}) {
		t.Error(l)
	}
	if x, e := r.Take(); x != 0 || e != api.ErrNone || r.Len() != 0 || r.Room() != 0 {
		t.Error("nothing is left", x, int(e))
	}
	full := filled(t, 1, 5)
	full.Close()
	if e := full.Put(6); e != api.ErrState {
		t.Error("closed is told ahead of full", int(e))
	}
}

// P2.2
func TestCountsAndDrain(t *testing.T) {
	r := filled(t, 4)
	for i := range 4 {
		if r.Len() != i || r.Room() != 4-i {
			t.Error(i, r.Len(), r.Room())
		}
		r.Put(i)
	}
	l := r.Drain()
	if !slices.Equal(l, []int{0, 1, 2, 3}) || r.Len() != 0 || r.Room() != 4 || len(r.Drain()) != 0 {
		t.Error(l)
	}
	l[0] = 99
	if e := r.Put(5); e != api.OK || r.Closed() {
		t.Error("it is no more open", int(e))
	}
}

// P2.2
func TestNil(t *testing.T) {
	var r *ring.Ring[int]
	x, e := r.Take()
	if r.Put(1) != api.ErrNil || x != 0 || e != api.ErrNil || r.Close() != api.ErrNil {
		t.Error("errors of nil")
	}
	if r.Closed() || r.Len() != 0 || r.Room() != 0 || len(r.Drain()) != 0 {
		t.Error("numbers of nil")
	}
}

// P2.3
func TestOrderAndNoWaiting(t *testing.T) {
	r := filled(t, 5)
	var model []int
	n := 1
	for i := range 10000 {
		n = (n*75 + 74) % 65537
		if n%2 == 0 {
			e := r.Put(i)
			if len(model) == 5 {
				if e != api.ErrFull {
					t.Fatal(i, int(e))
				}
				continue
			}
			model = append(model, i)
			if e != api.OK {
				t.Fatal(i, int(e))
			}
			continue
		}
		x, e := r.Take()
		if len(model) == 0 {
			if x != 0 || e != api.ErrNone {
				t.Fatal(i, x, int(e))
			}
			continue
		}
		if x != model[0] || e != api.OK {
			t.Fatal(i, x, int(e))
		}
		model = model[1:]
	}
	if l := r.Drain(); !slices.Equal(l, model) {
		t.Error(l, model)
	}
}

// P2.3
func TestThingsOfAnyType(t *testing.T) {
	r, _ := ring.New[[]byte](2)
	a := []byte{1}
	r.Put(a)
	r.Put(nil)
	l := r.Drain()
	if len(l) != 2 || &l[0][0] != &a[0] || l[1] != nil {
		t.Error(l)
	}
}
