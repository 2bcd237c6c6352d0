package cache

import (
	"lavabo/api"
	"lavabo/crc"
	"lavabo/forms"
	"lavabo/index"
	"lavabo/journal"
	"lavabo/slots"
)

// Modes of writes.
const (
	Back = iota
	Through
	Bypass
)

const leastRoom = 2 // records, ahead of anything that is told by one

// modes is what each mode does.
func modes() [Bypass + 1]func(c *Cache, block int, b api.Block) api.Errno {
	return [...]func(c *Cache, block int, b api.Block) api.Errno{
		Back:    (*Cache).writeBack,
		Through: (*Cache).writeThrough,
		Bypass:  (*Cache).bypass,
	}
}

// Write: P14.3.
func (c *Cache) Write(block int, b api.Block, mode int) api.Errno {
	if e := c.there(block); e != api.OK {
		return e
	}
	if !within(mode, Back, Bypass) {
		return api.ErrArg
	}
	return modes()[mode](c, block, b)
}

// Discard: P14.3.
func (c *Cache) Discard(block int) api.Errno {
	if e := c.there(block); e != api.OK {
		return e
	}
	return c.bypass(block, api.Block{})
}

func (c *Cache) writeBack(block int, b api.Block) api.Errno {
	slot, taken, e := c.take()
	if e != api.OK {
		return e
	}
	if !taken {
		return c.bypass(block, b)
	}
	if e := c.fill(slot, block, b); e != api.OK {
		return e
	}
	return c.settle(block, b, index.Place{Slot: slot, Dirty: true})
}

func (c *Cache) writeThrough(block int, b api.Block) api.Errno {
	slot, taken, e := c.take()
	if e != api.OK {
		return e
	}
	if !taken {
		return c.bypass(block, b)
	}
	if e := c.back.Write(block, b); e != api.OK {
		c.slots.Turn(slot, slots.Stale)
		return e
	}
	if c.fill(slot, block, b) != api.OK {
		return c.forget(block)
	}
	return c.settle(block, b, index.Place{Slot: slot})
}

func (c *Cache) bypass(block int, b api.Block) api.Errno {
	if e := c.room(); e != api.OK {
		return e
	}
	if e := c.back.Write(block, b); e != api.OK {
		return e
	}
	return c.forget(block)
}

// room lets there be room in the journal.
func (c *Cache) room() api.Errno {
	if c.journal.Room() >= leastRoom {
		return api.OK
	}
	return c.Checkpoint()
}

// take is a slot that is open from now on, ahead of records that there is room
// for; false, if there is none.
func (c *Cache) take() (int, bool, api.Errno) {
	slot, e := c.slots.Alloc()
	if e != api.OK {
		if e := c.vacate(); e != api.OK {
			return 0, false, e
		}
		if slot, e = c.slots.Alloc(); e != api.OK {
			return 0, false, api.OK
		}
	}
	if e := c.room(); e != api.OK {
		c.slots.Turn(slot, slots.Stale)
		return 0, false, e
	}
	return slot, true, api.OK
}

// vacate lets a slot be free, if one can be, of slots none of which is.
func (c *Cache) vacate() api.Errno {
	if c.slots.Count(slots.Stale) == 0 {
		if _, e := c.Evict(1); e != api.OK {
			return e
		}
	}
	if c.slots.Count(slots.Stale) == 0 {
		return api.OK
	}
	return c.Commit()
}

// fill puts a block's bytes into a slot that was taken; with an error the slot is bad.
func (c *Cache) fill(slot, block int, b api.Block) api.Errno {
	// Who knows what a write that failed left there.
	c.ledger.Put(slot, block)
	e := c.ssd.Write(c.layout.Slots+slot, b)
	if e != api.OK {
		c.slots.Turn(slot, slots.Bad)
	}
	return e
}

// settle lets a block be in the slot that has its bytes.
func (c *Cache) settle(block int, b api.Block, p index.Place) api.Errno {
	sum := crc.Sum(b[:])
	if e := c.tell(block, p, sum); e != api.OK {
		c.slots.Turn(p.Slot, slots.Stale)
		return e
	}
	was, e := c.index.Put(block, p)
	if e != api.OK {
		return e
	}
	c.slots.Turn(p.Slot, slots.Live)
	c.sums[block] = sum
	if was == (index.Place{Slot: index.Nowhere}) {
		return c.clock.Add(block)
	}
	c.slots.Turn(was.Slot, slots.Stale)
	return c.clock.Touch(block)
}

// tell adds the record of a block in a slot.
func (c *Cache) tell(block int, p index.Place, sum int) api.Errno {
	_, e := c.journal.Add(forms.Record{Op: journal.Put, Block: block, Slot: p.Slot, Dirty: p.Dirty, Sum: sum})
	return e
}

// forget drops a block that may be in a slot.
func (c *Cache) forget(block int) api.Errno {
	if _, in := c.Place(block); !in {
		return api.OK
	}
	return c.Drop(block)
}

// Drop: P14.4.
func (c *Cache) Drop(block int) api.Errno {
	if e := c.prepare(block); e != api.OK {
		return e
	}
	if e := c.leave(block); e != api.OK {
		return e
	}
	c.clock.Drop(block)
	return api.OK
}

// prepare is what hinders a record of a block that is in a slot.
func (c *Cache) prepare(block int) api.Errno {
	if e := c.there(block); e != api.OK {
		return e
	}
	if _, in := c.Place(block); !in {
		return api.ErrNone
	}
	return c.room()
}

// leave lets a block be in its slot no more.
func (c *Cache) leave(block int) api.Errno {
	if _, e := c.journal.Add(forms.Record{Op: journal.Drop, Block: block}); e != api.OK {
		return e
	}
	was, e := c.index.Drop(block)
	if e != api.OK {
		return e
	}
	delete(c.sums, block)
	return c.slots.Turn(was.Slot, slots.Stale)
}

// Clean: P14.4.
func (c *Cache) Clean(block int) api.Errno {
	if e := c.prepare(block); e != api.OK {
		return e
	}
	p, _ := c.Place(block)
	if e := c.tell(block, index.Place{Slot: p.Slot}, c.sums[block]); e != api.OK {
		return e
	}
	return c.index.Clean(block)
}

// Evict: P14.4.
func (c *Cache) Evict(n int) (int, api.Errno) {
	if c == nil {
		return 0, api.ErrNil
	}
	clean := func(block int) bool {
		p, in := c.Place(block)
		return in && !p.Dirty
	}
	gone := 0
blocks:
	for gone < n {
		if e := c.room(); e != api.OK {
			return gone, e
		}
		block, e := c.clock.Evict(clean)
		if e != api.OK {
			break blocks
		}
		if e := c.leave(block); e != api.OK {
			return gone, e
		}
		gone++
	}
	return gone, api.OK
}
