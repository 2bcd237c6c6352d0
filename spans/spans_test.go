package spans_test

import (
	"slices"
	"testing"

	"lavabo/api"
	"lavabo/spans"
)

const top = api.MaxKey

func set(t *testing.T, l ...api.Span) *spans.Set {
	t.Helper()
	s, e := spans.New(l...)
	if s == nil || e != api.OK {
		t.Fatal(l, int(e))
	}
	return s
}

func all(s *spans.Set) []api.Span { return slices.Collect(s.All()) }

var wrong = []api.Span{
	{From: -1, N: 1}, {From: 0, N: -1}, {From: -1, N: 0}, {From: 0, N: top + 1}, {From: top, N: 1}, {From: top + 1, N: 0},
	{From: 1<<63 - 1, N: 1}, {From: 1, N: 1<<63 - 1}, {From: 1<<63 - 1, N: 1<<63 - 1}, {From: -1 << 63, N: -1 << 63},
	{From: -1 << 63, N: 5}, {From: -5, N: 10},
}

// P3.1
func TestNewRefuses(t *testing.T) {
	for _, x := range wrong {
		if s, e := spans.New(api.Span{From: 1, N: 1}, x, api.Span{From: 4, N: 1}); s != nil || e != api.ErrRange {
			t.Errorf("%v: %d", x, int(e))
		}
	}
	if s := set(t); s.Len() != 0 || len(all(s)) != 0 {
		t.Error("a set of nothing")
	}
	if s := set(t, api.Span{From: 0, N: top}); s.Len() != top || !s.Has(0) || !s.Has(top-1) || s.Has(top) {
		t.Error("the greatest set")
	}
	if s := set(t, api.Span{From: top, N: 0}, api.Span{}); s.Len() != 0 || len(all(s)) != 0 {
		t.Error("empty spans")
	}
}

// P3.1
func TestAddAndCutRefuse(t *testing.T) {
	s := set(t, api.Span{From: 0, N: 4}, api.Span{From: top - 2, N: 2})
	was := s.Copy()
	for _, x := range wrong {
		if e := s.Add(x); e != api.ErrRange || !spans.Same(s, was) {
			t.Errorf("Add %v: %d", x, int(e))
		}
		if e := s.Cut(x); e != api.ErrRange || !spans.Same(s, was) {
			t.Errorf("Cut %v: %d", x, int(e))
		}
		if s.Meets(x) {
			t.Errorf("Meets %v", x)
		}
	}
}

// P3.1
func TestExample(t *testing.T) {
	s := set(t, api.Span{From: 0, N: 3}, api.Span{From: 5, N: 2})
	if e := s.Add(api.Span{From: 3, N: 2}); e != api.OK || !slices.Equal(all(s), []api.Span{{From: 0, N: 7}}) {
		t.Error(all(s), int(e))
	}
	if e := s.Cut(api.Span{From: 1, N: 1}); e != api.OK || !slices.Equal(all(s), []api.Span{{From: 0, N: 1}, {From: 2, N: 5}}) {
		t.Error(all(s), int(e))
	}
}

// model is the same set as numbers below 24, number by number.
type model [24]bool

func (m *model) put(x api.Span, in bool) {
	for i := range x.N {
		m[x.From+i] = in
	}
}

func (m *model) spans() (l []api.Span) {
	for n, in := range m {
		switch {
		case !in:
		case n > 0 && m[n-1]:
			l[len(l)-1].N++
		default:
			l = append(l, api.Span{From: n, N: 1})
		}
	}
	return l
}

func (m *model) numbers() (l []int) {
	for n, in := range m {
		if in {
			l = append(l, n)
		}
	}
	return l
}

func (m *model) check(t *testing.T, s *spans.Set) {
	t.Helper()
	if !slices.Equal(all(s), m.spans()) || !slices.Equal(slices.Collect(s.Numbers()), m.numbers()) || s.Len() != len(m.numbers()) {
		t.Fatalf("%v, not %v", all(s), m.spans())
	}
	for from := range len(m) {
		if s.Has(from) != m[from] {
			t.Fatal("Has", from)
		}
		meets := false
		for n := range len(m) - from + 1 {
			meets = meets || n > 0 && m[from+n-1]
			if s.Meets(api.Span{From: from, N: n}) != meets {
				t.Fatal("Meets", from, n)
			}
		}
	}
}

// P3.1, P3.2, P3.3
func TestAgainstNumbers(t *testing.T) {
	n := 7
	next := func(most int) int {
		n = (n*1103515245 + 12345) & (1<<31 - 1)
		return n >> 8 % most
	}
	for range 60 {
		s, m := set(t), &model{}
		for range 40 {
			from := next(24)
			x := api.Span{From: from, N: next(min(8, 25-from))}
			in := next(3) > 0
			e := s.Cut(x)
			if in {
				e = s.Add(x)
			}
			if e != api.OK {
				t.Fatal(x, int(e))
			}
			m.put(x, in)
			m.check(t, s)
		}
	}
}

// P3.2
func TestHasOfAnyNumber(t *testing.T) {
	s := set(t, api.Span{From: 0, N: top})
	for _, n := range []int{-1, top, top + 1, -1 << 63, 1<<63 - 1} {
		if s.Has(n) {
			t.Error(n)
		}
	}
	if s.Meets(api.Span{From: 3, N: 0}) {
		t.Error("an empty span meets nothing")
	}
}

// P3.2
func TestIteratorsTellOfWhenTheyWereAskedFor(t *testing.T) {
	s := set(t, api.Span{From: 1, N: 2}, api.Span{From: 9, N: 1})
	l, numbers := s.All(), s.Numbers()
	s.Cut(api.Span{From: 2, N: 1})
	s.Add(api.Span{From: 5, N: 1})
	for range 2 { // it may be gone through twice
		if got := slices.Collect(l); !slices.Equal(got, []api.Span{{From: 1, N: 2}, {From: 9, N: 1}}) {
			t.Error(got)
		}
		if got := slices.Collect(numbers); !slices.Equal(got, []int{1, 2, 9}) {
			t.Error(got)
		}
	}
	for x := range s.All() {
		if x.From != 1 {
			t.Error(x)
		}
		break
	}
	for n := range set(t, api.Span{From: 3, N: 5}).Numbers() {
		if n == 4 {
			break
		}
		if n > 4 {
			t.Error(n)
		}
	}
	for range s.Numbers() { // the set may turn meanwhile
		s.Cut(api.Span{From: 0, N: 20})
	}
	if s.Len() != 0 {
		t.Error(all(s))
	}
}

// P3.2
func TestCopyAndSame(t *testing.T) {
	a := set(t, api.Span{From: 4, N: 4})
	b := a.Copy()
	if !spans.Same(a, b) || !spans.Same(a, a) {
		t.Error("a copy is another one")
	}
	b.Cut(api.Span{From: 5, N: 1})
	if a.Len() != 4 || spans.Same(a, b) || spans.Same(b, a) {
		t.Error("a copy is no own one")
	}
	c := a.Copy()
	a.Add(api.Span{From: 0, N: 1})
	if c.Has(0) || spans.Same(a, c) {
		t.Error("a copy hangs on it")
	}
	if !spans.Same(nil, nil) || spans.Same(a, nil) || spans.Same(nil, a) || spans.Same(nil, set(t)) || !spans.Same(set(t), set(t)) {
		t.Error("Same of nil")
	}
	if spans.Same(set(t, api.Span{From: 1, N: 1}), set(t, api.Span{From: 2, N: 1})) || spans.Same(set(t, api.Span{From: 1, N: 1}), set(t, api.Span{From: 1, N: 2})) {
		t.Error("other numbers are the same")
	}
	long := set(t, api.Span{From: 1, N: 1}, api.Span{From: 5, N: 1})
	for _, short := range []*spans.Set{set(t), set(t, api.Span{From: 1, N: 1})} {
		if spans.Same(short, long) || spans.Same(long, short) {
			t.Error("a piece is the whole")
		}
	}
}

// P3.2
func TestNil(t *testing.T) {
	var s *spans.Set
	x := api.Span{From: 0, N: 1}
	if s.Add(x) != api.ErrNil || s.Cut(x) != api.ErrNil || s.Add(api.Span{From: -1}) != api.ErrNil {
		t.Error("errors of nil")
	}
	if s.Has(0) || s.Meets(x) || s.Len() != 0 || s.Copy() != nil {
		t.Error("answers of nil")
	}
	if len(all(s)) != 0 || len(slices.Collect(s.Numbers())) != 0 {
		t.Error("numbers of nil")
	}
}

// P3.3
func TestOrderAndPartsDoNotCount(t *testing.T) {
	l := []api.Span{{From: 10, N: 5}, {From: 0, N: 3}, {From: 3, N: 2}, {From: 12, N: 8}, {From: 30, N: 1}, {From: 8, N: 2}}
	whole := set(t, api.Span{From: 8, N: 12}, api.Span{From: 0, N: 5}, api.Span{From: 30, N: 1})
	for i := range l {
		turned := append(slices.Clone(l[i:]), l[:i]...)
		if s := set(t, turned...); !spans.Same(s, whole) {
			t.Error(turned, all(s))
		}
		slices.Reverse(turned)
		if s := set(t, turned...); !spans.Same(s, whole) {
			t.Error(turned, all(s))
		}
	}
	for _, x := range l {
		whole.Cut(x)
	}
	if whole.Len() != 0 {
		t.Error("what is added and cut is cut", all(whole))
	}
}

// P3.1
func TestWhatIsHandedInStays(t *testing.T) {
	l := []api.Span{{From: 5, N: 2}, {From: 1, N: 4}, {From: 20, N: 1}}
	was := slices.Clone(l)
	s := set(t, l[:2]...)
	s.Add(api.Span{From: 0, N: 9})
	l[0].From = 100
	if !slices.Equal(l[1:], was[1:]) || s.Has(100) || !s.Has(5) {
		t.Error("it hangs on what was handed in")
	}
}
