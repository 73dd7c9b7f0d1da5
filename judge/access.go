package judge

import (
	"slices"

	"messuage/api"
	"messuage/hist"
	"messuage/pte"
	"messuage/word"
)

// goes does a load or a store, and tells whether it went as it may.
func (t *trial) goes(e api.Event) bool {
	if err := t.check(e); err != api.OK {
		return fails(e, err)
	}
	entries := t.entries(e)
	if e.Answer.Err != api.OK {
		return fails(e, api.ErrFault) && slices.ContainsFunc(entries, func(p api.Pte) bool { return !lets(p.Rights, e) })
	}
	return by(e, entries) && t.touch(e) == e.Answer
}

// fails is whether e tells that error, and nothing else.
func fails(e api.Event, err api.Errno) bool {
	return e.Answer == api.Answer{Err: err} && e.Line == api.Line{}
}

// entries are those that e may find: the kernel's, and what each one of the
// calls that are under way then, and take pages, makes of it alone.
func (t *trial) entries(e api.Event) []api.Pte {
	page, _ := word.Arg(e.Call, 1, api.Pages)
	own, _ := t.k.Pte(e.Env, page)
	list := []api.Pte{own}
	for _, at := range hist.Over(t.es, e.Effect) {
		other := t.es[at]
		if !takes(other.Call) {
			continue
		}
		behind := t.k.Copy()
		behind.Do(other.Env, other.Call)
		p, _ := behind.Pte(e.Env, page)
		list = append(list, p)
	}
	return list
}

// takes is whether c is one of those that take pages, or rights of them.
func takes(c api.Call) bool {
	switch c[0] {
	case api.CUnmap, api.CProtect, api.CRevoke, api.CDrop:
		return true
	}
	return false
}

// lets is whether rights are enough for e.
func lets(rights int, e api.Event) bool {
	kind, _ := word.Kind(e.Call)
	return pte.Lets(rights, kind)
}

// by is whether e's Line is of its own page, is enough for it, and is no more
// than one of these entries.
func by(e api.Event, entries []api.Pte) bool {
	l := e.Line
	page, _ := word.Arg(e.Call, 1, api.Pages)
	if l.Env != e.Env || l.Page != page || !lets(l.Rights, e) {
		return false
	}
	return slices.ContainsFunc(entries, func(p api.Pte) bool {
		return p.Frame == l.Frame && pte.Within(l.Rights, p.Rights)
	})
}
