package slots_test

import (
	"slices"
	"testing"

	"lavabo/api"
	"lavabo/slots"
)

var states = []int{slots.Free, slots.Open, slots.Live, slots.Stale, slots.Bad}

var noStates = []int{-1, 5, -1 << 63, 1<<63 - 1}

// ways is by which states a slot comes from Free to a state.
var ways = [][]int{
	slots.Free:  {},
	slots.Open:  {slots.Open},
	slots.Live:  {slots.Open, slots.Live},
	slots.Stale: {slots.Open, slots.Stale},
	slots.Bad:   {slots.Open, slots.Bad},
}

// may is which turns the words name.
var may = map[[2]int]bool{
	{slots.Free, slots.Open}: true,
	{slots.Open, slots.Live}: true, {slots.Open, slots.Stale}: true, {slots.Open, slots.Bad}: true,
	{slots.Live, slots.Stale}: true, {slots.Live, slots.Bad}: true,
	{slots.Stale, slots.Free}: true, {slots.Stale, slots.Bad}: true,
}

func made(t *testing.T, n int, states ...int) *slots.Slots {
	t.Helper()
	s, e := slots.New(n)
	if s == nil || e != api.OK {
		t.Fatal("no slots", int(e))
	}
	for slot, state := range states {
		for _, x := range ways[state] {
			if e := s.Turn(slot, x); e != api.OK {
				t.Fatal(slot, x, int(e))
			}
		}
	}
	return s
}

// are tells if slots have other states.
func are(t *testing.T, s *slots.Slots, want ...int) {
	t.Helper()
	if s.Len() != len(want) {
		t.Error("Len", s.Len())
	}
	for slot, state := range want {
		if got, e := s.State(slot); got != state || e != api.OK {
			t.Errorf("slot %d is %d, not %d; %d", slot, got, state, int(e))
		}
	}
	for _, state := range states {
		var l []int
		for slot, x := range want {
			if x == state {
				l = append(l, slot)
			}
		}
		if got := slices.Collect(s.All(state)); !slices.Equal(got, l) || s.Count(state) != len(l) {
			t.Errorf("slots of %d: %v, %d, not %v", state, got, s.Count(state), l)
		}
	}
}

// P8.1
func TestNew(t *testing.T) {
	for _, n := range []int{1, 3, 1023, 1024} {
		are(t, made(t, n), make([]int, n)...)
	}
	for _, n := range []int{0, -1, 1025, -1 << 63, 1<<63 - 1} {
		if s, e := slots.New(n); s != nil || e != api.ErrSize {
			t.Error(n, int(e))
		}
	}
	if !slices.Equal(states, []int{0, 1, 2, 3, 4}) {
		t.Error("states are numbered otherwise")
	}
}

// P8.1
func TestMay(t *testing.T) {
	for _, from := range append(noStates, states...) {
		for _, to := range append(noStates, states...) {
			if slots.May(from, to) != may[[2]int{from, to}] {
				t.Error(from, to)
			}
		}
	}
}

// P8.1
func TestAlloc(t *testing.T) {
	s := made(t, 4, slots.Live, slots.Free, slots.Bad, slots.Free)
	if n, e := s.Alloc(); n != 1 || e != api.OK {
		t.Error(n, int(e))
	}
	if n, e := s.Alloc(); n != 3 || e != api.OK {
		t.Error(n, int(e))
	}
	if n, e := s.Alloc(); n != 0 || e != api.ErrFull {
		t.Error(n, int(e))
	}
	are(t, s, slots.Live, slots.Open, slots.Bad, slots.Open)
	s.Turn(0, slots.Stale)
	if n, e := s.Alloc(); n != 0 || e != api.ErrFull {
		t.Error("a stale one is not free", n, int(e))
	}
	s.Turn(0, slots.Free)
	if n, e := s.Alloc(); n != 0 || e != api.OK {
		t.Error(n, int(e))
	}
}

// P8.1
func TestTurn(t *testing.T) {
	for _, from := range states {
		for _, to := range states {
			s := made(t, 3, slots.Live, from)
			want, state := api.ErrState, from
			if may[[2]int{from, to}] {
				want, state = api.OK, to
			}
			if e := s.Turn(1, to); e != want {
				t.Error(from, to, int(e))
			}
			are(t, s, slots.Live, state, slots.Free)
		}
		for _, to := range noStates {
			s := made(t, 2, from)
			if e := s.Turn(0, to); e != api.ErrArg {
				t.Error(from, to, int(e))
			}
			for _, slot := range []int{-1, 2, -1 << 63, 1<<63 - 1} {
				if s.Turn(slot, to) != api.ErrRange || s.Turn(slot, slots.Open) != api.ErrRange {
					t.Error(slot, to)
				}
			}
			are(t, s, from, slots.Free)
		}
	}
}

// P8.2
func TestStateAndCountOfNone(t *testing.T) {
	s := made(t, 2, slots.Live)
	for _, slot := range []int{-1, 2, -1 << 63, 1<<63 - 1} {
		if n, e := s.State(slot); n != 0 || e != api.ErrRange {
			t.Error(slot, n, int(e))
		}
	}
	for _, state := range noStates {
		if s.Count(state) != 0 || len(slices.Collect(s.All(state))) != 0 {
			t.Error(state)
		}
	}
}

// P8.2
func TestAllTellsOfWhenItWasAskedFor(t *testing.T) {
	s := made(t, 4, slots.Stale, slots.Live, slots.Stale, slots.Stale)
	all := s.All(slots.Stale)
	s.Turn(0, slots.Free)
	s.Turn(1, slots.Stale)
	for range 2 {
		if l := slices.Collect(all); !slices.Equal(l, []int{0, 2, 3}) {
			t.Error(l)
		}
	}
	for slot := range s.All(slots.Stale) { // slots may turn meanwhile
		if e := s.Turn(slot, slots.Free); e != api.OK {
			t.Error(slot, int(e))
		}
	}
	are(t, s, 0, 0, 0, 0)
	for slot := range s.All(slots.Free) {
		if slot > 0 {
			t.Error("it goes on")
		}
		break
	}
}

// P8.2
func TestCopy(t *testing.T) {
	s := made(t, 3, slots.Live, slots.Bad)
	c := s.Copy()
	are(t, c, slots.Live, slots.Bad, slots.Free)
	c.Turn(0, slots.Stale)
	s.Alloc()
	are(t, s, slots.Live, slots.Bad, slots.Open)
	are(t, c, slots.Stale, slots.Bad, slots.Free)
}

// P8.1, P8.2
func TestNil(t *testing.T) {
	var s *slots.Slots
	n, e := s.Alloc()
	m, f := s.State(0)
	if n != 0 || e != api.ErrNil || m != 0 || f != api.ErrNil || s.Turn(0, 9) != api.ErrNil || s.Turn(0, slots.Open) != api.ErrNil {
		t.Error("errors of nil")
	}
	if s.Count(slots.Free) != 0 || s.Len() != 0 || s.Copy() != nil || len(slices.Collect(s.All(slots.Free))) != 0 {
		t.Error("answers of nil")
	}
}

// P8.3
func TestCountsTogether(t *testing.T) {
	s := made(t, 6)
	n := 1
	model := make([]int, 6)
	for range 2000 {
		n = (n*1103515245 + 12345) & (1<<31 - 1)
		slot, to := n>>8%6, n>>16%5
		if to == slots.Bad && n>>20%8 > 0 {
			continue // else all were bad soon
		}
		was := model[slot]
		if e := s.Turn(slot, to); (e == api.OK) != may[[2]int{was, to}] {
			t.Fatal(was, to, int(e))
		} else if e == api.OK {
			model[slot] = to
		}
		all := 0
		for _, state := range states {
			all += s.Count(state)
		}
		if all != 6 {
			t.Fatal("counts", all)
		}
		are(t, s, model...)
	}
}
