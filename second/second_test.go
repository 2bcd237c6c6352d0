package second_test

import (
	"slices"
	"testing"

	"lavabo/api"
	"lavabo/second"
)

func clock(t *testing.T, most, ghosts int, l ...string) *second.Clock[string] {
	t.Helper()
	c, e := second.New[string](most, ghosts)
	if c == nil || e != api.OK {
		t.Fatal("no clock", int(e))
	}
	for _, k := range l {
		if e := c.Add(k); e != api.OK {
			t.Fatal("Add", k, int(e))
		}
	}
	return c
}

func any(string) bool { return true }

func none(string) bool { return false }

func but(l ...string) func(string) bool {
	return func(k string) bool { return !slices.Contains(l, k) }
}

// evicts tells if another key goes.
func evicts(t *testing.T, c *second.Clock[string], may func(string) bool, want string) {
	t.Helper()
	k, e := c.Evict(may)
	if want == "" && (k != "" || e != api.ErrNone) || want != "" && (k != want || e != api.OK) {
		t.Errorf("%q goes, %d, not %q", k, int(e), want)
	}
}

// is tells if a clock has other keys (those that were asked for with a star), or ghosts.
func is(t *testing.T, c *second.Clock[string], keys, ghosts []string) {
	t.Helper()
	var l []string
	for k, asked := range c.All() {
		if asked {
			k += "*"
		}
		l = append(l, k)
	}
	if g := slices.Collect(c.Ghosts()); !slices.Equal(l, keys) || !slices.Equal(g, ghosts) || c.Len() != len(keys) {
		t.Errorf("%v and %v, not %v and %v", l, g, keys, ghosts)
	}
	for _, k := range []string{"a", "b", "c", "d", "e"} {
		if c.Has(k) != (slices.Contains(keys, k) || slices.Contains(keys, k+"*")) || c.Ghost(k) != slices.Contains(ghosts, k) {
			t.Error("Has, Ghost", k)
		}
	}
}

// P7.1
func TestNew(t *testing.T) {
	for _, n := range [][2]int{{1, 0}, {1024, 1024}, {5, 3}} {
		is(t, clock(t, n[0], n[1]), nil, nil)
	}
	for _, n := range [][2]int{{0, 0}, {-1, 0}, {1025, 0}, {1, -1}, {1, 1025}, {-1 << 63, 5}, {5, 1<<63 - 1}} {
		if c, e := second.New[string](n[0], n[1]); c != nil || e != api.ErrSize {
			t.Error(n, int(e))
		}
	}
}

// P7.1
func TestAdd(t *testing.T) {
	c := clock(t, 3, 3, "a", "b", "c")
	if c.Add("b") != api.ErrThere || c.Add("d") != api.ErrFull {
		t.Error("what cannot be added")
	}
	is(t, c, []string{"a", "b", "c"}, nil)
	c.Touch("a")
	evicts(t, c, any, "b") // the hand is at c
	if e := c.Add("d"); e != api.OK {
		t.Error(int(e))
	}
	is(t, c, []string{"c", "a", "d"}, []string{"b"}) // d is the last one that the hand comes to
	evicts(t, c, any, "c")
	if e := c.Add("b"); e != api.OK {
		t.Error(int(e))
	}
	is(t, c, []string{"a", "d", "b*"}, []string{"c"}) // it was a ghost, and is none any more
}

// P7.1
func TestMostKeys(t *testing.T) {
	c, _ := second.New[int](1024, 1024)
	for i := range 1024 {
		if e := c.Add(i); e != api.OK {
			t.Fatal(i, int(e))
		}
	}
	if e := c.Add(1024); e != api.ErrFull || c.Len() != 1024 {
		t.Error(int(e))
	}
	for i := range 1024 {
		if k, e := c.Evict(func(int) bool { return true }); k != i || e != api.OK {
			t.Fatal(i, k, int(e))
		}
	}
	if !c.Ghost(0) || !c.Ghost(1023) || c.Len() != 0 {
		t.Error("ghosts")
	}
}

// P7.1
func TestTouchAndDrop(t *testing.T) {
	c := clock(t, 4, 4, "a", "b", "c")
	if c.Touch("d") != api.ErrNone || c.Drop("d") != api.ErrNone || c.Touch("c") != api.OK || c.Touch("c") != api.OK {
		t.Error("Touch, Drop")
	}
	is(t, c, []string{"a", "b", "c*"}, nil)
	if e := c.Drop("a"); e != api.OK {
		t.Error(int(e))
	}
	is(t, c, []string{"b", "c*"}, nil) // the hand is at the next one
	if e := c.Drop("c"); e != api.OK {
		t.Error(int(e))
	}
	is(t, c, []string{"b"}, nil)
	c.Add("c")
	is(t, c, []string{"b", "c"}, nil) // what is dropped is no ghost, and not asked for
	evicts(t, c, any, "b")
	if c.Touch("b") != api.ErrNone || c.Drop("b") != api.ErrNone {
		t.Error("a ghost is not in")
	}
	is(t, c, []string{"c"}, []string{"b"})
	if e := c.Drop("c"); e != api.OK {
		t.Error(int(e))
	}
	is(t, c, nil, []string{"b"})
}

// P7.2
func TestEvictPasses(t *testing.T) {
	c := clock(t, 4, 4, "a", "b", "c", "d")
	c.Touch("a")
	c.Touch("b")
	evicts(t, c, but("a"), "c") // a may not go, and stays asked for; b is passed
	is(t, c, []string{"d", "a*", "b"}, []string{"c"})
	evicts(t, c, but("d"), "b") // d is passed, a is asked for no more
	is(t, c, []string{"d", "a"}, []string{"c", "b"})
	evicts(t, c, but("d"), "a")
	is(t, c, []string{"d"}, []string{"c", "b", "a"})
	evicts(t, c, but("d"), "")
	c.Touch("d")
	evicts(t, c, none, "")
	is(t, c, []string{"d*"}, []string{"c", "b", "a"})
	evicts(t, c, any, "d") // the second time that the hand comes to it
	is(t, c, nil, []string{"c", "b", "a", "d"})
	evicts(t, c, any, "")
	if k, e := c.Evict(nil); k != "" || e != api.ErrNil {
		t.Error("nil", int(e))
	}
}

// P7.2
func TestEvictGoesRoundTwice(t *testing.T) {
	c := clock(t, 3, 3, "a", "b", "c")
	c.Touch("a")
	c.Touch("b")
	c.Touch("c")
	evicts(t, c, any, "a")
	is(t, c, []string{"b", "c"}, []string{"a"})
	evicts(t, c, none, "")
	is(t, c, []string{"b", "c"}, []string{"a"})
	var l []string
	c.Evict(func(k string) bool { l = append(l, k); return k == "c" })
	if !slices.Equal(l, []string{"b", "c"}) {
		t.Error("may is called of", l)
	}
}

// P7.2
func TestGhostsAreBounded(t *testing.T) {
	c := clock(t, 5, 2, "a", "b", "c", "d")
	for _, k := range []string{"a", "b", "c"} {
		evicts(t, c, any, k)
	}
	is(t, c, []string{"d"}, []string{"b", "c"})
	c.Add("a")
	is(t, c, []string{"d", "a"}, []string{"b", "c"})
	c = clock(t, 2, 0, "a")
	evicts(t, c, any, "a")
	is(t, c, nil, nil)
	c.Add("a")
	is(t, c, []string{"a"}, nil)
}

// P7.1, P7.2
func TestExample(t *testing.T) {
	c := clock(t, 2, 2, "a", "b")
	c.Touch("a")
	evicts(t, c, any, "b")
	is(t, c, []string{"a"}, []string{"b"})
}

// P7.3
func TestIteratorsTellOfWhenTheyWereAskedFor(t *testing.T) {
	c := clock(t, 4, 4, "a", "b", "c")
	evicts(t, c, any, "a")
	c.Touch("c")
	all, ghosts := c.All(), c.Ghosts()
	c.Touch("b")
	c.Drop("c")
	c.Add("a")
	for range 2 {
		var l []string
		for k, asked := range all {
			if asked != (k == "c") {
				t.Error(k, asked)
			}
			l = append(l, k)
		}
		if !slices.Equal(l, []string{"b", "c"}) || !slices.Equal(slices.Collect(ghosts), []string{"a"}) {
			t.Error(l)
		}
	}
	for k := range c.All() {
		c.Drop(k)
		break
	}
	is(t, c, []string{"a*"}, nil)
	for range ghosts {
		break
	}
}

// P7.3
func TestNil(t *testing.T) {
	var c *second.Clock[string]
	k, e := c.Evict(any)
	if c.Add("a") != api.ErrNil || c.Touch("a") != api.ErrNil || c.Drop("a") != api.ErrNil || k != "" || e != api.ErrNil {
		t.Error("errors of nil")
	}
	if _, e := c.Evict(nil); e != api.ErrNil {
		t.Error("nil of nil", int(e))
	}
	is(t, c, nil, nil)
}

// entry is a key of a simple model: a list from the hand on.
type entry struct {
	k     int
	asked bool
}

// P7.1, P7.2, P7.4
func TestAgainstAList(t *testing.T) {
	n := 5
	next := func(most int) int {
		n = (n*1103515245 + 12345) & (1<<31 - 1)
		return n >> 8 % most
	}
	c, _ := second.New[int](5, 3)
	var l []entry
	var ghosts []int
	at := func(k int) int { return slices.IndexFunc(l, func(x entry) bool { return x.k == k }) }
	for range 5000 {
		k := next(9)
		switch i := at(k); next(5) {
		case 0, 1:
			want := api.OK
			if i >= 0 {
				want = api.ErrThere
			} else if len(l) == 5 {
				want = api.ErrFull
			}
			if e := c.Add(k); e != want {
				t.Fatal("Add", k, int(e))
			}
			if want != api.OK {
				break
			}
			g := slices.Index(ghosts, k)
			l = append(l, entry{k, g >= 0})
			if g >= 0 {
				ghosts = slices.Delete(ghosts, g, g+1)
			}
		case 2:
			if e := c.Touch(k); (e == api.OK) != (i >= 0) {
				t.Fatal("Touch", k, int(e))
			}
			if i >= 0 {
				l[i].asked = true
			}
		case 3:
			if e := c.Drop(k); (e == api.OK) != (i >= 0) {
				t.Fatal("Drop", k, int(e))
			}
			if i >= 0 {
				l = slices.Delete(l, i, i+1)
			}
		case 4:
			which := next(512)
			may := func(k int) bool { return which>>k&1 == 1 }
			got, e := c.Evict(may)
			want, f := 0, api.ErrNone
			for range 2 * len(l) {
				x := l[0]
				l = l[1:]
				if may(x.k) && !x.asked {
					want, f = x.k, api.OK
					ghosts = append(ghosts, x.k)
					ghosts = ghosts[max(0, len(ghosts)-3):]
					break
				}
				x.asked = x.asked && !may(x.k)
				l = append(l, x)
			}
			if got != want || e != f {
				t.Fatal("Evict", got, want, int(e))
			}
		}
		i := 0
		for k, asked := range c.All() {
			if i >= len(l) || l[i] != (entry{k, asked}) {
				t.Fatal("another circle")
			}
			i++
		}
		if i != len(l) || !slices.Equal(slices.Collect(c.Ghosts()), ghosts) {
			t.Fatal("other keys")
		}
	}
}

// P7.4
func TestFirstComeFirstGo(t *testing.T) {
	c := clock(t, 5, 0, "a", "b", "c", "d", "e")
	for _, k := range []string{"a", "b"} {
		evicts(t, c, any, k)
		c.Add(k)
	}
	for _, k := range []string{"c", "d", "e", "a", "b"} {
		evicts(t, c, any, k)
	}
}
