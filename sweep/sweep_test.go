package sweep_test

import (
	"slices"
	"testing"

	"lavabo/api"
	"lavabo/sweep"
)

const most, least = 1<<63 - 1, -1 << 63

func made(t *testing.T, batch int, phases ...[]int) *sweep.Sweep {
	t.Helper()
	s, e := sweep.New(batch, phases...)
	if s == nil || e != api.OK {
		t.Fatal("no sweep", int(e))
	}
	return s
}

// batch tells if the next one is another.
func batch(t *testing.T, s *sweep.Sweep, phase int, want ...int) {
	t.Helper()
	for range 2 { // to ask turns nothing
		if n, l := s.Batch(); n != phase || !slices.Equal(l, want) {
			t.Errorf("batch %v of %d, not %v of %d", l, n, want, phase)
		}
	}
	if s.Over() != (len(want) == 0) {
		t.Error("Over", s.Over())
	}
}

func tell(t *testing.T, s *sweep.Sweep, want api.Errno, bad ...int) {
	t.Helper()
	if e := s.Tell(bad...); e != want {
		t.Errorf("Tell %v: %d, not %d", bad, int(e), int(want))
	}
}

// bad tells if other sectors are bad: pairs, one behind the other.
func bad(t *testing.T, s *sweep.Sweep, want ...int) {
	t.Helper()
	var l []int
	for phase, sector := range s.Bad() {
		l = append(l, phase, sector)
	}
	if !slices.Equal(l, want) {
		t.Errorf("bad: %v, not %v", l, want)
	}
}

// counts tells if a sweep counts otherwise.
func counts(t *testing.T, s *sweep.Sweep, steps, left, sectors int) {
	t.Helper()
	if s.Steps() != steps || s.Left() != left || s.Sectors() != sectors {
		t.Errorf("%d steps, %d left, %d sectors, not %d, %d, %d", s.Steps(), s.Left(), s.Sectors(), steps, left, sectors)
	}
}

// P16.1
func TestNewRefuses(t *testing.T) {
	for _, c := range []struct {
		batch  int
		phases [][]int
		want   api.Errno
	}{
		{0, nil, api.ErrSize}, {65, nil, api.ErrSize}, {-1, nil, api.ErrSize}, {most, nil, api.ErrSize}, {least, nil, api.ErrSize},
		{0, [][]int{{-1}}, api.ErrSize},
		{1, [][]int{{1, -1}}, api.ErrRange}, {1, [][]int{{}, {1 << 20}}, api.ErrRange}, {1, [][]int{{most}}, api.ErrRange}, {1, [][]int{{least}}, api.ErrRange},
		{1, [][]int{{1, 1}, {-1}}, api.ErrRange}, // of all phases, ahead of what stands twice
		{1, [][]int{{1, 1}}, api.ErrThere}, {1, [][]int{{1}, {3, 2, 3}}, api.ErrThere}, {64, [][]int{{1, 2}, {}, {5, 6, 7, 5}}, api.ErrThere},
	} {
		if s, e := sweep.New(c.batch, c.phases...); s != nil || e != c.want {
			t.Error(c, int(e))
		}
	}
	counts(t, made(t, 1, []int{1, 2}, []int{2, 1}), 0, 4, 4) // phases may have the same sectors
	counts(t, made(t, 64, []int{0, 1<<20 - 1}), 0, 1, 2)
}

// P16.1
func TestBatches(t *testing.T) {
	s := made(t, 2, []int{5, 6, 7}, []int{}, []int{1})
	counts(t, s, 0, 3, 4)
	batch(t, s, 0, 5, 6)
	tell(t, s, api.OK, 6)
	counts(t, s, 1, 2, 4)
	batch(t, s, 0, 7)
	tell(t, s, api.OK)
	batch(t, s, 2, 1)
	counts(t, s, 2, 1, 4)
	tell(t, s, api.OK)
	batch(t, s, 0)
	counts(t, s, 3, 0, 4)
	bad(t, s, 0, 6)
	tell(t, s, api.ErrNone)
	tell(t, s, api.ErrNone, 6)
	counts(t, s, 3, 0, 4)
}

// P16.1
func TestSectorsStayInTheirOrder(t *testing.T) {
	s := made(t, 3, []int{9, 2, 7, 3, 8})
	batch(t, s, 0, 9, 2, 7)
	tell(t, s, api.OK, 9, 2, 9)
	batch(t, s, 0, 3, 8)
	tell(t, s, api.OK, 3)
	bad(t, s, 0, 2, 0, 3, 0, 9)
}

// P16.1
func TestNothing(t *testing.T) {
	for _, s := range []*sweep.Sweep{made(t, 1), made(t, 5, nil, []int{}, nil)} {
		batch(t, s, 0)
		counts(t, s, 0, 0, 0)
		tell(t, s, api.ErrNone)
		bad(t, s)
	}
	s := made(t, 5, nil, []int{}, []int{4})
	batch(t, s, 2, 4)
}

// P16.1
func TestTellRefuses(t *testing.T) {
	s := made(t, 2, []int{5, 6, 7}, []int{6, 9})
	for _, l := range [][]int{{7}, {5, 9}, {-1}, {5, 6, 7}, {most}, {least}} {
		tell(t, s, api.ErrRange, l...)
		batch(t, s, 0, 5, 6)
		bad(t, s)
		counts(t, s, 0, 3, 5)
	}
	tell(t, s, api.OK, 5, 6)
	tell(t, s, api.ErrRange, 6)
	tell(t, s, api.OK)
	tell(t, s, api.OK, 6)
	bad(t, s, 0, 5, 0, 6, 1, 6)
}

// P16.1, P16.2
func TestNothingIsShared(t *testing.T) {
	a := []int{5, 6, 7}
	s := made(t, 2, a, []int{1})
	a[0] = 99
	_, l := s.Batch()
	l[1] = 99
	_ = append(l[:1], 98)
	batch(t, s, 0, 5, 6)
	again := s.Again()
	tell(t, s, api.OK, 5)
	batch(t, s, 0, 7)
	batch(t, again, 0, 5, 6)
	bad(t, again)
	if !slices.Equal(a, []int{99, 6, 7}) {
		t.Error("it was written into")
	}
}

// P16.2
func TestBadTellsOfWhenItWasAskedFor(t *testing.T) {
	s := made(t, 2, []int{5, 6, 7})
	tell(t, s, api.OK, 6, 5)
	all := s.Bad()
	tell(t, s, api.OK, 7)
	for range 2 {
		var l []int
		for phase, sector := range all {
			l = append(l, phase, sector)
		}
		if !slices.Equal(l, []int{0, 5, 0, 6}) {
			t.Error(l)
		}
	}
	for _, sector := range s.Bad() {
		if sector != 5 {
			t.Error(sector)
		}
		break
	}
}

// P16.2
func TestAgain(t *testing.T) {
	s := made(t, 2, []int{}, []int{5, 6, 7}, []int{3})
	for range 3 {
		tell(t, s, api.OK)
	}
	a := s.Again()
	counts(t, s, 3, 0, 4)
	counts(t, a, 0, 3, 4)
	batch(t, a, 1, 5, 6)
	tell(t, a, api.OK, 5)
	bad(t, s)
	b := a.Again()
	bad(t, b)
	batch(t, b, 1, 5, 6)
	if b == a {
		t.Error("it is the same one")
	}
}

// P16.1, P16.2
func TestNil(t *testing.T) {
	var s *sweep.Sweep
	if s.Tell(1) != api.ErrNil || s.Again() != nil {
		t.Error("nil")
	}
	batch(t, s, 0)
	bad(t, s)
	counts(t, s, 0, 0, 0)
}

// P16.3
func TestEachSectorIsInOneBatch(t *testing.T) {
	for size := 1; size <= 64; size++ {
		phases := make([][]int, 5)
		all, sectors := 0, 0
		for p := range phases {
			n := (size*31 + p*47) % 150 * (p % 4)
			sectors += n
			all += (n + size - 1) / size
			for i := range n {
				phases[p] = append(phases[p], (i*7919+size)%(1<<20))
			}
		}
		s := made(t, size, phases...)
		got := make([][]int, 5)
		for step := 0; !s.Over(); step++ {
			counts(t, s, step, all-step, sectors)
			p, l := s.Batch()
			if len(l) == 0 || len(l) > size || len(l) < size && len(got[p])+len(l) < len(phases[p]) {
				t.Fatal("size", size, "phase", p, l)
			}
			got[p] = append(got[p], l...)
			tell(t, s, api.OK, l[0])
		}
		counts(t, s, all, 0, sectors)
		for p := range phases {
			if !slices.Equal(got[p], phases[p]) {
				t.Fatal("size", size, "phase", p)
			}
		}
	}
}
