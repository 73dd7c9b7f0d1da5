package plain

import (
	"messuage/api"
	"messuage/caps"
	"messuage/pred"
	"messuage/pte"
	"messuage/word"
)

// call does a call whose words are right, for an environment that there is.
// CYield has no case: it does nothing.
func (k *Kernel) call(env int, c api.Call) (api.Answer, bool) {
	var a api.Answer
	first, second, third := int(c[1]), int(c[2]), int(c[3])
	takeAway := k.caps.Revoke
	switch c[0] {
	case api.CAlloc:
		a.Err = k.alloc(env, first)
	case api.CDerive:
		a.Err = k.derive(env, first, env, second, third)
	case api.CGrant:
		a.Err = k.derive(env, first, second, third, int(c[4]))
	case api.CDrop:
		takeAway = k.caps.Drop
		fallthrough
	case api.CRevoke:
		a.Val, a.Err = k.lose(env, first, takeAway)
	case api.CMap:
		a.Err = k.enter(env, first, second, third)
	case api.CUnmap:
		_, a.Err = k.tables[env].Remove(first)
	case api.CProtect:
		a.Err = k.protect(env, first, second)
	case api.CSleep:
		return k.sleep(env, first, second, third, c[4])
	case api.ULoad, api.UStore, api.UCas, api.UAdd:
		a.Val, a.Err = k.access(env, first, c)
	}
	return a, true
}

// alloc asks for the slot ahead of taking a frame, which would be lost if the
// slot then turned out to be taken.
func (k *Kernel) alloc(env, slot int) api.Errno {
	if _, taken := k.caps.At(env, slot); taken {
		return api.ErrBusy
	}
	frame, ok := k.pool.Take()
	if !ok {
		return api.ErrFull
	}
	k.mem.Zero(frame)
	return k.caps.Root(env, slot, frame)
}

// derive puts the capability there and takes it back if its frame has as many
// as may be, since each error of caps counts ahead of that one.
func (k *Kernel) derive(env, src, to, dst, rights int) api.Errno {
	if err := k.caps.Derive(env, src, to, dst, rights); err != api.OK {
		return err
	}
	derived, _ := k.caps.At(to, dst)
	if !k.pool.Hold(derived.Frame) {
		k.caps.Drop(to, dst)
		return api.ErrFull
	}
	return api.OK
}

// lose lets go of what takeAway takes of that slot's capability, and tells how
// many that were. All of them are of one frame: they came from each other.
func (k *Kernel) lose(env, slot int, takeAway func(env, slot int) ([]caps.Place, api.Errno)) (uint64, api.Errno) {
	source, _ := k.caps.At(env, slot)
	gone, err := takeAway(env, slot)
	for _, p := range gone {
		k.removeBy(p)
		k.pool.Let(source.Frame)
	}
	return uint64(len(gone)), err
}

// removeBy takes away the entries that are by the capability that was there.
func (k *Kernel) removeBy(p caps.Place) {
	t := k.tables[p.Env]
	for _, page := range t.By(p.Slot) {
		t.Remove(page)
	}
}

// enter makes an entry of that page, by that slot's capability.
func (k *Kernel) enter(env, page, slot, rights int) api.Errno {
	by, ok := k.caps.At(env, slot)
	if !ok {
		return api.ErrNone
	}
	if _, busy := k.tables[env].At(page); busy {
		return api.ErrBusy
	}
	if !pte.Within(rights, by.Rights) {
		return api.ErrRights
	}
	return k.tables[env].Insert(page, api.Pte{Frame: by.Frame, Slot: slot, Rights: rights})
}

// protect asks the capability for the rights, not the entry: what the entry has
// less than the capability it can be given back.
func (k *Kernel) protect(env, page, rights int) api.Errno {
	e, ok := k.tables[env].At(page)
	if !ok {
		return api.ErrNone
	}
	by, _ := k.caps.At(env, e.Slot)
	if !pte.Within(rights, by.Rights) {
		return api.ErrRights
	}
	return k.tables[env].Protect(page, rights)
}

// sleep tells the word, if what it sleeps for holds of it; false: it waits.
func (k *Kernel) sleep(env, slot, place, op int, value uint64) (api.Answer, bool) {
	c, ok := k.caps.At(env, slot)
	if !ok {
		return api.Answer{Err: api.ErrNone}, true
	}
	if !pte.Within(api.RRead, c.Rights) {
		return api.Answer{Err: api.ErrRights}, true
	}
	w, _ := k.mem.Load(c.Frame, place)
	if !pred.Holds(op, w, value) {
		return api.Answer{}, false
	}
	return api.Answer{Val: w}, true
}

// access does a load or a store by that page's entry. A page that has none has
// no rights either, and these let nothing.
func (k *Kernel) access(env, page int, c api.Call) (uint64, api.Errno) {
	e, _ := k.tables[env].At(page)
	if !pte.Lets(e.Rights, int(c[0])) {
		return 0, api.ErrFault
	}
	val, _ := k.touch(e.Frame, c)
	return val, api.OK
}

// touch does a load or a store in that frame: its value; 0, false: it is none,
// or there is no such word.
func (k *Kernel) touch(frame int, c api.Call) (uint64, bool) {
	kind, _ := word.Kind(c)
	place, ok := word.Arg(c, 2, api.Words)
	if !ok {
		return 0, false
	}
	switch kind {
	case api.ULoad:
		return k.mem.Load(frame, place)
	case api.UStore:
		return 0, k.mem.Store(frame, place, c[3])
	case api.UCas:
		return k.mem.Cas(frame, place, c[3], c[4])
	case api.UAdd:
		return k.mem.Add(frame, place, c[3])
	}
	return 0, false
}
