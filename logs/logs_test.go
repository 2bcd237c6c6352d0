package logs_test

import (
	"slices"
	"testing"

	"lavabo/api"
	"lavabo/cache"
	"lavabo/dev"
	"lavabo/forms"
	"lavabo/logs"
)

const most, least = 1<<63 - 1, -1 << 63

// thing is put as its two numbers; one of X 66 cannot be put, one of X 77 not be got.
type thing struct{ ID, X int }

func put(x thing) (api.Block, api.Errno) {
	if x.X == 66 {
		return api.Block{}, api.ErrOver
	}
	return api.Block{byte(x.ID), byte(x.X)}, api.OK
}

func get(b api.Block) (thing, api.Errno) {
	if b[1] == 77 {
		return thing{}, api.ErrSum
	}
	return thing{ID: int(b[0]), X: int(b[1])}, api.OK
}

func id(x thing) int { return x.ID }

// made is a log of 4 things, in the sectors 3 to 6 of 10.
func made(t *testing.T) (*logs.Log[thing], *dev.Device) {
	t.Helper()
	d, _ := dev.New(10)
	l, e := logs.New(d, 3, 4, put, get, id)
	if l == nil || e != api.OK {
		t.Fatal("no log", int(e))
	}
	return l, d
}

func is(t *testing.T, e, want api.Errno) {
	t.Helper()
	if e != want {
		t.Errorf("error %d, not %d", int(e), int(want))
	}
}

// gets tells if another thing is got.
func gets(t *testing.T, l *logs.Log[thing], id int, want thing, wrong api.Errno) {
	t.Helper()
	if x, e := l.Get(id); x != want || e != wrong {
		t.Errorf("Get %d: %v %d, not %v %d", id, x, int(e), want, int(wrong))
	}
}

// P17.1
func TestNew(t *testing.T) {
	d, _ := dev.New(10)
	for _, c := range [][2]int{{-1, 2}, {0, 0}, {0, -1}, {0, 11}, {9, 2}, {10, 1}, {most, 1}, {1, most}, {most, most}, {least, least}, {least, 1}} {
		if l, e := logs.New(d, c[0], c[1], put, get, id); l != nil || e != api.ErrRange {
			t.Error(c, int(e))
		}
		_, e := logs.New(nil, c[0], c[1], put, get, id)
		is(t, e, api.ErrNil)
	}
	for i := range 3 {
		p, g, n := put, get, id
		switch i {
		case 0:
			p = nil
		case 1:
			g = nil
		case 2:
			n = nil
		}
		if l, e := logs.New(d, -1, 4, p, g, n); l != nil || e != api.ErrNil {
			t.Error(i, int(e))
		}
	}
	for _, c := range [][2]int{{0, 10}, {9, 1}, {0, 1}} {
		if l, e := logs.New(d, c[0], c[1], put, get, id); l.Len() != c[1] || e != api.OK {
			t.Error(c, int(e))
		}
	}
}

// P17.1
func TestPut(t *testing.T) {
	l, d := made(t)
	is(t, l.Put(thing{2, 9}), api.OK)
	if b, _ := d.Firm(5); b != (api.Block{2, 9}) || d.Open() != 0 {
		t.Error("it is not firm", b)
	}
	gets(t, l, 2, thing{2, 9}, api.OK)
	is(t, l.Put(thing{2, 8}), api.ErrThere)
	gets(t, l, 2, thing{2, 9}, api.OK)
	is(t, l.Put(thing{0, 1}), api.OK)
	is(t, l.Put(thing{3, 1}), api.OK)
	for _, n := range []int{4, -1, most, least} {
		is(t, l.Put(thing{n, 1}), api.ErrFull)
		is(t, l.Put(thing{n, 66}), api.ErrOver)
	}
	is(t, l.Put(thing{1, 66}), api.ErrOver)
	for s, want := range [10]byte{3: 1, 5: 9, 6: 1} {
		if b, _ := d.Read(s); b[1] != want {
			t.Error("sector", s, b[1])
		}
	}
}

// P17.1
func TestCallsOfPut(t *testing.T) {
	l, d := made(t)
	d.Plan(dev.Fails)
	is(t, l.Put(thing{1, 66}), api.ErrOver)
	is(t, l.Put(thing{9, 1}), api.ErrFull)
	if d.Planned() != 1 {
		t.Error("the device was called")
	}
	is(t, l.Put(thing{1, 5}), api.ErrRead)
	d.Plan(dev.Goes, dev.Fails, dev.Fails)
	is(t, l.Put(thing{1, 5}), api.ErrWrite)
	if d.Planned() != 1 || d.Open() != 0 {
		t.Error("it goes on")
	}
	d.Flush()
	d.Plan(dev.Goes, dev.Goes, dev.Fails)
	is(t, l.Put(thing{1, 5}), api.ErrFlush)
	gets(t, l, 1, thing{1, 5}, api.OK) // it is there, but not firm
	d.Plan(dev.Goes, dev.Fails)
	is(t, l.Put(thing{1, 5}), api.ErrFlush)
	d.Plan(dev.Goes, dev.Goes, dev.Fails)
	is(t, l.Put(thing{1, 5}), api.OK)
	if d.Planned() != 1 || d.Open() != 0 {
		t.Error("it is read, and flushed, and not written again")
	}
	is(t, l.Put(thing{1, 5}), api.ErrRead)
	d.Plan(dev.Goes, dev.Fails)
	is(t, l.Put(thing{1, 6}), api.ErrThere)
	if d.Planned() != 1 {
		t.Error("what is there already is not flushed")
	}
}

// P17.1
func TestGetAndAll(t *testing.T) {
	l, d := made(t)
	all := func(wrong api.Errno, want ...thing) {
		t.Helper()
		if x, e := l.All(); !slices.Equal(x, want) || e != wrong {
			t.Error(x, int(e))
		}
	}
	all(api.OK)
	for _, n := range []int{-1, 4, most, least} {
		gets(t, l, n, thing{}, api.ErrRange)
	}
	gets(t, l, 0, thing{}, api.ErrNone)
	l.Put(thing{3, 1})
	l.Put(thing{1, 2})
	all(api.OK, thing{1, 2}, thing{3, 1})
	d.Plan(dev.Fails)
	gets(t, l, 1, thing{}, api.ErrRead)
	d.Plan(dev.Goes, dev.Goes, dev.Fails, dev.Fails)
	all(api.ErrRead)
	if d.Planned() != 1 {
		t.Error("it goes on")
	}
	d.Flush()
	d.Write(5, api.Block{2, 77})
	gets(t, l, 2, thing{}, api.ErrForm)
	all(api.ErrForm)
	d.Write(5, api.Block{1, 2}) // the thing of another number
	gets(t, l, 2, thing{}, api.ErrForm)
	all(api.ErrForm)
	d.Write(5, api.Block{2, 3})
	all(api.OK, thing{1, 2}, thing{2, 3}, thing{3, 1})
}

// P17.1, P17.2
func TestNil(t *testing.T) {
	var l *logs.Log[thing]
	is(t, l.Put(thing{1, 66}), api.ErrNil)
	gets(t, l, -1, thing{}, api.ErrNil)
	x, e := l.All()
	is(t, e, api.ErrNil)
	if len(x) != 0 || l.Len() != 0 {
		t.Error("answers of nil")
	}
	o, e := logs.Open(nil)
	is(t, e, api.ErrNil)
	if o != (logs.Logs{}) {
		t.Error("Open of nil")
	}
	r := opened(t)
	for i, x := range []logs.Logs{{}, {Certs: r.Certs, Failures: r.Failures}, {Intents: r.Intents, Failures: r.Failures}, {Intents: r.Intents, Certs: r.Certs}} {
		is(t, x.Check(), api.ErrNil)
		if l, e := x.Waits(); len(l) != 0 || e != api.ErrNil {
			t.Error(i, int(e))
		}
		n, e := x.Next()
		if i < 2 {
			is(t, e, api.ErrNil)
		} else {
			is(t, e, api.OK)
		}
		if n != 0 {
			t.Error(i, n)
		}
	}
}

// rig is the logs of a cache of 9 blocks: intents in the sectors 7 to 10, certificates 11 to 14, failures 15 to 18.
type rig struct {
	logs.Logs
	t   *testing.T
	ssd *dev.Device
}

func opened(t *testing.T) *rig {
	t.Helper()
	s := forms.Super{Blocks: 9, Slots: 4, Journal: 4, Pages: 1, Logs: 4, Batch: 1}
	p, _ := cache.Plan(s)
	ssd, _ := dev.New(p.Size)
	back, _ := dev.New(s.Blocks)
	c, e := cache.New(s, ssd, back, 0, 0)
	if e != api.OK {
		t.Fatal(int(e))
	}
	l, e := logs.Open(c)
	if e != api.OK || l.Intents.Len() != 4 || l.Certs.Len() != 4 || l.Failures.Len() != 4 {
		t.Fatal("no logs", int(e))
	}
	return &rig{Logs: l, t: t, ssd: ssd}
}

func intent(n int) forms.Intent {
	return forms.Intent{ID: n, Seq: n, Span: api.Span{From: n, N: 2}}
}

func cert(n int) forms.Cert { return forms.Cert{ID: n, Seq: n, Span: api.Span{From: n, N: 2}} }

func failure(n int) forms.Failure {
	return forms.Failure{ID: n, Seq: n, Span: api.Span{From: n, N: 2}, Many: 1}
}

// waits tells if others wait.
func (r *rig) waits(want api.Errno, ids ...int) {
	r.t.Helper()
	l, e := r.Waits()
	var all []int
	for _, x := range l {
		if x != intent(x.ID) {
			r.t.Error(x)
		}
		all = append(all, x.ID)
	}
	if !slices.Equal(all, ids) || e != want {
		r.t.Errorf("%v wait, %d, not %v, %d", all, int(e), ids, int(want))
	}
	is(r.t, r.Check(), want)
}

// next tells if the next number is another one.
func (r *rig) next(want int, wrong api.Errno) {
	r.t.Helper()
	if n, e := r.Next(); n != want || e != wrong {
		r.t.Errorf("Next: %d %d, not %d %d", n, int(e), want, int(wrong))
	}
}

// P17.2
func TestOpenWhereLayoutTells(t *testing.T) {
	r := opened(t)
	is(t, r.Intents.Put(intent(1)), api.OK)
	is(t, r.Certs.Put(cert(2)), api.OK)
	is(t, r.Failures.Put(failure(3)), api.OK)
	for s := range r.ssd.Size() {
		b, _ := r.ssd.Firm(s)
		kind, e := forms.Kind(b)
		if want := map[int]int{8: forms.Intents, 13: forms.Certs, 18: forms.Failures}[s]; kind != want || (e == api.OK) != (want != 0) {
			t.Error("sector", s, kind)
		}
	}
	is(t, r.Intents.Put(forms.Intent{ID: 1}), api.ErrRange)
	is(t, r.Intents.Put(intent(-1)), api.ErrRange)
	is(t, r.Intents.Put(intent(4)), api.ErrFull)
	is(t, r.Intents.Put(intent(1)), api.OK)
	is(t, r.Intents.Put(forms.Intent{ID: 1, Span: api.Span{N: 1}}), api.ErrThere)
	r.next(2, api.OK)
}

// P17.2
func TestWaits(t *testing.T) {
	r := opened(t)
	r.waits(api.OK)
	for n := range 4 {
		is(t, r.Intents.Put(intent(n)), api.OK)
	}
	r.waits(api.OK, 0, 1, 2, 3)
	is(t, r.Certs.Put(cert(2)), api.OK)
	is(t, r.Failures.Put(failure(0)), api.OK)
	r.waits(api.OK, 1, 3)
	is(t, r.Certs.Put(cert(1)), api.OK)
	is(t, r.Failures.Put(failure(1)), api.OK)
	r.waits(api.OK, 3)
	for i, n := range []int{0, 3, 4, 7, 8, 11} { // the first and the last sector of each
		r.ssd.Plan(append(make([]int, n), dev.Fails)...)
		if l, e := r.Waits(); len(l) != 0 || e != api.ErrRead || r.ssd.Planned() != 0 {
			t.Error(i, l, int(e))
		}
		r.ssd.Plan(append(make([]int, n), dev.Fails)...)
		is(t, r.Check(), api.ErrRead)
	}
	r.ssd.Write(14, api.Block{1})
	r.waits(api.ErrForm)
}

// P17.2
func TestNext(t *testing.T) {
	r := opened(t)
	r.next(0, api.OK)
	r.Intents.Put(intent(0))
	r.next(1, api.OK)
	r.Intents.Put(intent(2))
	r.next(3, api.OK)
	r.ssd.Plan(make([]int, 5)...)
	r.next(3, api.OK)
	if r.ssd.Planned() != 1 {
		t.Error("other logs are asked")
	}
	r.ssd.Flush()
	r.ssd.Plan(dev.Goes, dev.Fails)
	r.next(0, api.ErrRead)
	r.Intents.Put(intent(3))
	r.next(0, api.ErrFull)
	r.ssd.Write(8, api.Block{1})
	r.next(0, api.ErrForm)
}

// P17.3
func TestWhatWasPutIsThereBehindACrash(t *testing.T) {
	l, d := made(t)
	for n := range 4 {
		is(t, l.Put(thing{n, n + 1}), api.OK)
		before := d.Copy()
		is(t, l.Put(thing{n, n + 1}), api.OK)
		if !dev.Same(d, before) {
			t.Error("to put twice is not to put once")
		}
		is(t, l.Put(thing{n, 50}), api.ErrThere)
		c, _ := d.Crash()
		behind, _ := logs.New(c, 3, 4, put, get, id)
		for m := range n + 1 {
			gets(t, behind, m, thing{m, m + 1}, api.OK)
		}
	}
}
