package cache

import (
	"slices"

	"lavabo/api"
	"lavabo/dev"
	"lavabo/forms"
	"lavabo/pages"
	"lavabo/slots"
)

// Commit: P14.5.
func (c *Cache) Commit() api.Errno {
	if c == nil {
		return api.ErrNil
	}
	if e := c.back.Flush(); e != api.OK {
		return e
	}
	if e := c.journal.Commit(); e != api.OK {
		return e
	}
	c.release()
	return api.OK
}

// release lets stale slots be free, as what tells so is firm.
func (c *Cache) release() {
	for slot := range c.slots.All(slots.Stale) {
		c.slots.Turn(slot, slots.Free)
	}
}

// entries is what a checkpoint tells, by rising blocks.
func (c *Cache) entries() []forms.Entry {
	var l []forms.Entry
	for block, p := range c.Places(api.Span{N: c.super.Blocks}) {
		l = append(l, forms.Entry{Block: block, Slot: p.Slot, Dirty: p.Dirty, Sum: c.sums[block]})
	}
	return l
}

// Checkpoint: P14.5.
func (c *Cache) Checkpoint() api.Errno {
	if c == nil {
		return api.ErrNil
	}
	if e := c.back.Flush(); e != api.OK {
		return e
	}
	if e := c.ssd.Flush(); e != api.OK {
		return e
	}
	other, seq := 1-c.which, c.journal.Next()-1
	if e := pages.Save(c.ssd, c.layout.Pages, c.super.Pages, other, seq, c.entries()...); e != api.OK {
		return e
	}
	c.which = other
	c.journal.Cover(seq)
	c.release()
	return api.OK
}

// Wipe: P14.5.
func (c *Cache) Wipe() ([]int, api.Errno) {
	if c == nil {
		return nil, api.ErrNil
	}
	for range 2 { // both checkpoints may tell of what is gone
		if e := c.Checkpoint(); e != api.OK {
			return nil, e
		}
	}
	return Overwrite(c.ssd, c.journal.Sectors()...)
}

// Overwrite: P14.5.
func Overwrite(d *dev.Device, l ...int) ([]int, api.Errno) {
	if d == nil {
		return nil, api.ErrNil
	}
	var bad []int
	for _, sector := range l {
		if d.Write(sector, api.Block{}) != api.OK {
			bad = append(bad, sector)
		}
	}
	if e := d.Flush(); e != api.OK {
		return nil, e
	}
	for _, sector := range l {
		if b, e := d.Read(sector); e != api.OK || b != (api.Block{}) {
			bad = append(bad, sector)
		}
	}
	slices.Sort(bad)
	return slices.Compact(bad), api.OK
}
