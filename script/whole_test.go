package script_test

import (
	"slices"
	"testing"

	"lavabo/api"
	"lavabo/script"
)

// candidates is what each block may read as behind a crash: what it was when
// it was firm, and all that it was since; what it is now last.
type candidates [12][]api.Block

// do tells what an op that was accepted does to blocks.
func (c *candidates) do(o script.Op) {
	for i := range o.N {
		b := o.From + i
		switch o.Do {
		case script.Write, script.Firm:
			c[b] = append(c[b], script.Fill(b, o.Fill))
		case script.Discard:
			c[b] = append(c[b], api.Block{})
		case script.Purge:
			c[b] = []api.Block{{}} // its intent is firm
		}
	}
	if o.Do == script.Flush || o.Do == script.Firm {
		c.firm()
	}
}

func (c *candidates) firm() {
	for b := range c {
		c[b] = c[b][len(c[b])-1:]
	}
}

// T1
func TestBlocksBehindCrashes(t *testing.T) {
	for seed := range 60 {
		n := dice(seed * 307)
		r := made(t)
		var c candidates
		for b := range c {
			c[b] = []api.Block{{}}
		}
		for step := range 400 {
			o := throw(&n)
			if n.next(12) == 0 {
				o = script.Op{Do: script.Crash}
				for range n.next(40) {
					o.Keep = append(o.Keep, n.next(2) == 0)
				}
			}
			a := r.Do(o)
			switch {
			case a.Code == api.OK:
				c.do(o)
			case a.Code != api.ErrBusy && a.Code != api.ErrFull && a.Code != api.ErrNone:
				t.Fatal(seed, step, o, int(a.Code))
			}
			a = r.Do(op(script.Read, 0, 12, 0))
			if a.Code != api.OK {
				t.Fatal(seed, step, int(a.Code))
			}
			for b, x := range a.Data {
				if o.Do != script.Crash && x != c[b][len(c[b])-1] {
					t.Fatal(seed, step, o, "block", b, "is not what it was last")
				}
				if !slices.Contains(c[b], x) {
					t.Fatal(seed, step, o, "block", b, "is what it never was")
				}
				c[b] = append(c[b], x)
			}
			if o.Do == script.Crash {
				c.firm()
			}
		}
	}
}
