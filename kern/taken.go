package kern

import (
	"messuage/api"
	"messuage/caps"
	"messuage/pte"
)

// entry is the rights of that page's entry; 0: there is none.
func (k *Kern) entry(env, page int) int {
	p, _ := k.plain.Pte(env, page)
	return p.Rights
}

// kept is the rights of that page's entry that it has ahead of by's call and
// behind it as well.
func (k *Kern) kept(by api.Event, env, page int) int {
	p, ok := k.plain.Pte(env, page)
	if !ok {
		return 0
	}
	// Words that are wrong are of no page, no slot and no rights, and so such a
	// call is found to take nothing.
	first, rights := int(by.Call[1]), int(by.Call[2])
	own := env == by.Env && page == first
	slot, top := caps.Place{Env: env, Slot: p.Slot}, caps.Place{Env: by.Env, Slot: first}
	goes := false
	switch by.Call[0] {
	case api.CUnmap:
		goes = own
	case api.CProtect:
		if own && k.mayHave(slot, rights) {
			return p.Rights & rights
		}
	case api.CRevoke:
		goes = slot != top && k.from(slot, top)
	case api.CDrop:
		goes = k.from(slot, top)
	}
	if goes {
		return 0
	}
	return p.Rights
}

// takes is whether by's call takes that page, or rights of it.
func (k *Kern) takes(by api.Event, env, page int) bool {
	return k.kept(by, env, page) != k.entry(env, page)
}

// mayHave is whether an entry by that capability may have these rights.
func (k *Kern) mayHave(slot caps.Place, rights int) bool {
	c, _ := k.plain.Cap(slot.Env, slot.Slot)
	return pte.Within(rights, c.Rights)
}

// from is whether the capability at p is the one at top, or came from it.
func (k *Kern) from(p, top caps.Place) bool {
	for p != top {
		c, ok := k.plain.Cap(p.Env, p.Slot)
		if !ok || c.Env < 0 {
			return false
		}
		p = caps.Place{Env: c.Env, Slot: c.Slot}
	}
	return true
}

// seen is the rights of that page's entry that no call takes that has sent its
// interrupts. Buffers get no others: for such a call that which it takes is the
// same as long as the entry is there, so what is hidden from a page's first
// entry on, or since each buffer that had it was told, stays out of all buffers
// until the call takes effect.
func (k *Kern) seen(env, page int) int {
	rights := k.entry(env, page)
	for _, c := range k.cores {
		if c.job != nil && c.job.epoch != 0 {
			rights &= k.kept(k.events[c.job.event], env, page)
		}
	}
	return rights
}

// shed has the core's buffer lose what it has beyond what may stay.
func (k *Kern) shed(core int, may func(env, page int) int) {
	buffer := k.cores[core].buffer
	for _, l := range buffer.Lines() {
		if l.Env >= 0 && !pte.Within(l.Rights, may(l.Env, l.Page)) {
			buffer.Flush(l.Env, l.Page)
		}
	}
}
