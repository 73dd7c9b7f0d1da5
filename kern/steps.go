package kern

import (
	"slices"

	"messuage/api"
	"messuage/table"
	"messuage/user"
	"messuage/word"
)

// job is a call under way.
type job struct {
	event int    // where its event lies
	epoch uint64 // that of its interrupts; 0: it sent none
	told  []int  // the cores that it interrupted
}

// tells is whether j interrupted that core.
func (j *job) tells(core int) bool { return slices.Contains(j.told, core) }

// heard is whether no buffer has what the core's call takes any more. Those
// calls that take nothing need not ask anybody, and go on at once.
func (k *Kern) heard(core int) bool {
	j := k.cores[core].job
	if j.epoch == 0 {
		k.interrupt(core)
	}
	return !slices.ContainsFunc(k.epochs.Waits(j.epoch), j.tells)
}

// interrupt has the core's own buffer lose what its call takes, and interrupts
// the others that have some of it. From then on no buffer gets it (see seen),
// so that this is needed just once.
func (k *Kern) interrupt(core int) {
	j := k.cores[core].job
	by := k.events[j.event]
	k.shed(core, func(env, page int) int { return k.kept(by, env, page) })
	j.told = k.holders(core, by)
	if len(j.told) == 0 {
		return
	}
	j.epoch, _ = k.epochs.Begin(core)
	for other := range k.cores {
		switch {
		case j.tells(other):
			k.mail.Send(core, other, j.epoch)
		case k.mail.Waits(other) == 0:
			// It has nothing to hear of, so the epoch need not be kept for it.
			k.epochs.Ack(other, j.epoch)
		}
	}
}

// holders are the other cores whose buffers have a page that the call takes,
// or takes rights of.
func (k *Kern) holders(core int, by api.Event) []int {
	var list []int
	for other := range k.cores {
		has := slices.ContainsFunc(k.Lines(other), func(l api.Line) bool { return k.takes(by, l.Env, l.Page) })
		if has && other != core {
			list = append(list, other)
		}
	}
	return list
}

// effect does the core's call, which ends with that, but if it waits.
func (k *Kern) effect(core int) {
	own := &k.cores[core]
	e := &k.events[own.job.event]
	a, l, ok := k.do(core, *e)
	if !ok {
		return
	}
	e.Effect, e.End, e.Answer, e.Line = k.now, k.now, a, l
	own.job = nil
}

// do does e's call, and tells its answer and the line that it went by; false:
// it waits.
func (k *Kern) do(core int, e api.Event) (api.Answer, api.Line, bool) {
	if kind, _ := word.Kind(e.Call); word.User(kind) {
		a, l := k.access(core, e)
		return a, l, true
	}
	a, ok := k.plain.Do(e.Env, e.Call)
	return a, api.Line{}, ok
}

// access does a load or a store. The words are the plain kernel's, since one
// may sleep for them: the buffer tells the frame alone.
func (k *Kern) access(core int, e api.Event) (api.Answer, api.Line) {
	page, _ := word.Arg(e.Call, 1, api.Pages)
	a, l := user.Do(k.cores[core].buffer, k.walked(e.Env, page), nil, e.Env, e.Call)
	if a.Err == api.OK {
		a, _ = k.plain.Touch(l.Frame, e.Call)
	}
	return a, l
}

// walked is the table in which a core looks for that page.
func (k *Kern) walked(env, page int) *table.Table {
	t := table.New()
	e, _ := k.plain.Pte(env, page)
	e.Rights = k.seen(env, page)
	// It refuses an entry without rights, and has none then.
	t.Insert(page, e)
	return t
}
