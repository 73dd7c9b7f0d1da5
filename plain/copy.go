package plain

import (
	"messuage/api"
	"messuage/caps"
	"messuage/mem"
	"messuage/pool"
	"messuage/table"
)

// Copy is another kernel, alike. Its parts can't be copied as such: each is
// told anew what makes it alike.
func (k *Kernel) Copy() *Kernel {
	if k == nil {
		return nil
	}
	alike := fresh(len(k.tables), k.mem.Frames())
	for env, from := range k.tables {
		copyEntries(alike.tables[env], from)
		for slot := range api.Slots {
			copyCap(alike.caps, k.caps, env, slot)
		}
	}
	copyRefs(alike.pool, k.pool, k.mem.Frames())
	copyWords(alike.mem, k.mem)
	return alike
}

func copyEntries(to, from *table.Table) {
	for page := range api.Pages {
		if e, ok := from.At(page); ok {
			to.Insert(page, e)
		}
	}
}

// copyCap copies that slot's capability behind all that it came from. What is
// copied already is refused as busy, and stays.
func copyCap(to, from *caps.Tree, env, slot int) {
	c, ok := from.At(env, slot)
	if !ok {
		return
	}
	if c.Env < 0 {
		to.Root(env, slot, c.Frame)
		return
	}
	copyCap(to, from, c.Env, c.Slot)
	to.Derive(c.Env, c.Slot, env, slot, c.Rights)
}

// copyRefs takes all frames ahead of letting go of the free ones, since a pool
// gives them in its own order.
func copyRefs(to, from *pool.Pool, frames int) {
	for range frames {
		to.Take()
	}
	for frame := range frames {
		for range from.Refs(frame) - 1 {
			to.Hold(frame)
		}
	}
	for _, frame := range from.Free() {
		to.Let(frame)
	}
}

func copyWords(to, from *mem.Mem) {
	for frame := range from.Frames() {
		for place, w := range from.Frame(frame) {
			to.Store(frame, place, w)
		}
	}
}
