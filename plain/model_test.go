package plain

import (
	"slices"
	"testing"

	"messuage/api"
)

// grant is what should be in a slot. It is known by its address: what comes
// into the same slot later is another one.
type grant struct {
	frame, rights int
	parent        *grant
	at            place
}

// entry is what should be at a page: it is there as long as what it is by.
type entry struct {
	by     *grant
	rights int
}

// model is a kernel as it should be. It counts nothing: which frames are free
// and how many capabilities they have is seen from the slots.
type model struct {
	envs    int
	grants  map[place]*grant
	entries map[place]entry
	words   [][]uint64
}

func modelOf(envs, frames int) *model {
	m := &model{envs: envs, grants: map[place]*grant{}, entries: map[place]entry{}}
	for range frames {
		m.words = append(m.words, make([]uint64, 16))
	}
	return m
}

// twin is a model that goes on on its own.
func (m *model) twin() *model {
	x := modelOf(m.envs, len(m.words))
	of := map[*grant]*grant{}
	for p, g := range m.grants {
		of[g] = &grant{frame: g.frame, rights: g.rights, at: g.at}
		x.grants[p] = of[g]
	}
	for g, h := range of {
		h.parent = of[g.parent]
	}
	for p, e := range m.entries {
		x.entries[p] = entry{by: of[e.by], rights: e.rights}
	}
	for frame, ws := range m.words {
		copy(x.words[frame], ws)
	}
	return x
}

func (m *model) count(frame int) int {
	n := 0
	for _, g := range m.grants {
		if g.frame == frame {
			n++
		}
	}
	return n
}

func (m *model) free() []int {
	var list []int
	for frame := range m.words {
		if m.count(frame) == 0 {
			list = append(list, frame)
		}
	}
	return list
}

func (g *grant) from(top *grant) bool {
	for g = g.parent; g != nil; g = g.parent {
		if g == top {
			return true
		}
	}
	return false
}

// sight is what the kernel should tell.
func (m *model) sight() sight {
	s := sight{caps: map[place]api.Cap{}, ptes: map[place]api.Pte{}, words: make([][]uint64, 16), free: m.free()}
	for p, g := range m.grants {
		c := api.Cap{Frame: g.frame, Rights: g.rights, Env: -1}
		if g.parent != nil {
			c.Env, c.Slot = g.parent.at.env, g.parent.at.at
		}
		s.caps[p] = c
	}
	for p, e := range m.entries {
		s.ptes[p] = api.Pte{Frame: e.by.frame, Slot: e.by.at.at, Rights: e.rights}
	}
	for frame, ws := range m.words {
		s.words[frame] = slices.Clone(ws)
	}
	return s
}

func within(a, b int) bool { return a|b == b }

func (m *model) alloc(p place) outcome {
	if m.grants[p] != nil {
		return fails(api.ErrBusy)
	}
	free := m.free()
	if len(free) == 0 {
		return fails(api.ErrFull)
	}
	m.words[free[0]] = make([]uint64, 16)
	m.grants[p] = &grant{frame: free[0], rights: 3, at: p}
	return tells(0)
}

func (m *model) derive(src, dst place, rights int) outcome {
	g := m.grants[src]
	switch {
	case g == nil:
		return fails(api.ErrNone)
	case m.grants[dst] != nil:
		return fails(api.ErrBusy)
	case !within(rights, g.rights):
		return fails(api.ErrRights)
	case m.count(g.frame) == 7:
		return fails(api.ErrFull)
	}
	m.grants[dst] = &grant{frame: g.frame, rights: rights, parent: g, at: dst}
	return tells(0)
}

func (m *model) lose(p place, itself bool) outcome {
	top := m.grants[p]
	if top == nil {
		return fails(api.ErrNone)
	}
	gone := map[*grant]bool{}
	for _, g := range m.grants {
		gone[g] = g.from(top) || itself && g == top
	}
	before := len(m.grants)
	for q, g := range m.grants {
		if gone[g] {
			delete(m.grants, q)
		}
	}
	for q, e := range m.entries {
		if gone[e.by] {
			delete(m.entries, q)
		}
	}
	return tells(uint64(before - len(m.grants)))
}

func (m *model) enter(page, slot place, rights int) outcome {
	g := m.grants[slot]
	switch {
	case g == nil:
		return fails(api.ErrNone)
	case m.entries[page].by != nil:
		return fails(api.ErrBusy)
	case !within(rights, g.rights):
		return fails(api.ErrRights)
	}
	m.entries[page] = entry{by: g, rights: rights}
	return tells(0)
}

func (m *model) unmap(page place) outcome {
	if m.entries[page].by == nil {
		return fails(api.ErrNone)
	}
	delete(m.entries, page)
	return tells(0)
}

func (m *model) protect(page place, rights int) outcome {
	e := m.entries[page]
	switch {
	case e.by == nil:
		return fails(api.ErrNone)
	case !within(rights, e.by.rights):
		return fails(api.ErrRights)
	}
	m.entries[page] = entry{by: e.by, rights: rights}
	return tells(0)
}

func (m *model) sleep(slot place, at, op int, value uint64) outcome {
	g := m.grants[slot]
	switch {
	case g == nil:
		return fails(api.ErrNone)
	case g.rights == 2:
		return fails(api.ErrRights)
	}
	w := m.words[g.frame][at]
	if []bool{w == value, w != value, w < value, w > value}[op-1] {
		return tells(w)
	}
	return waits
}

func (m *model) access(page place, c api.Call) outcome {
	e := m.entries[page]
	needs := map[uint64]int{api.ULoad: 1, api.UStore: 2, api.UCas: 3, api.UAdd: 3}[c[0]]
	if e.by == nil || !within(needs, e.rights) {
		return fails(api.ErrFault)
	}
	return m.touch(e.by.frame, c)
}

func (m *model) touch(frame int, c api.Call) outcome {
	w := &m.words[frame][c[2]]
	was := *w
	switch c[0] {
	case api.UStore:
		*w = c[3]
		return tells(0)
	case api.UCas:
		if was == c[3] {
			*w = c[4]
		}
	case api.UAdd:
		*w = was + c[3]
	}
	return tells(was)
}

// do does a call whose words are right.
func (m *model) do(env int, c api.Call) outcome {
	here := func(i int) place { return place{env, int(c[i])} }
	switch c[0] {
	case api.CAlloc:
		return m.alloc(here(1))
	case api.CDerive:
		return m.derive(here(1), here(2), int(c[3]))
	case api.CGrant:
		return m.derive(here(1), place{int(c[2]), int(c[3])}, int(c[4]))
	case api.CRevoke:
		return m.lose(here(1), false)
	case api.CDrop:
		return m.lose(here(1), true)
	case api.CMap:
		return m.enter(here(1), here(2), int(c[3]))
	case api.CUnmap:
		return m.unmap(here(1))
	case api.CProtect:
		return m.protect(here(1), int(c[2]))
	case api.CSleep:
		return m.sleep(here(1), int(c[2]), int(c[3]), c[4])
	case api.CYield:
		return tells(0)
	}
	return m.access(here(1), c)
}

// dice are numbers that look as if they fell by chance, the same ones each time.
type dice uint64

func (d *dice) below(n int) uint64 {
	*d = *d*6364136223846793005 + 1442695040888963407
	return uint64(*d>>33) % uint64(n)
}

// call is one whose words are right. Slots, pages and values are few, so that
// the calls meet each other.
func (d *dice) call(envs int) api.Call {
	slot := func() uint64 { return d.below(5) + 3*d.below(2) }
	page := func() uint64 { return d.below(4) }
	rights := func() uint64 { return []uint64{1, 2, 3, 3, 3}[d.below(5)] }
	value := func() uint64 { return d.below(3) - 1 }
	at := func() uint64 { return 15 * d.below(2) }
	switch kinds[d.below(len(kinds))] {
	case api.CAlloc:
		return api.Call{api.CAlloc, slot()}
	case api.CDerive:
		return api.Call{api.CDerive, slot(), slot(), rights()}
	case api.CGrant:
		return api.Call{api.CGrant, slot(), d.below(envs), slot(), rights()}
	case api.CRevoke:
		return api.Call{api.CRevoke, slot()}
	case api.CDrop:
		return api.Call{api.CDrop, slot()}
	case api.CMap:
		return api.Call{api.CMap, page(), slot(), rights()}
	case api.CUnmap:
		return api.Call{api.CUnmap, page()}
	case api.CProtect:
		return api.Call{api.CProtect, page(), rights()}
	case api.CSleep:
		return api.Call{api.CSleep, slot(), at(), 1 + d.below(4), value()}
	case api.CYield:
		return api.Call{api.CYield}
	case api.ULoad:
		return api.Call{api.ULoad, page(), at()}
	case api.UStore:
		return api.Call{api.UStore, page(), at(), value()}
	case api.UCas:
		return api.Call{api.UCas, page(), at(), value(), value()}
	}
	return api.Call{api.UAdd, page(), at(), value()}
}

// Long rows of calls are told as the model tells them, by a kernel, by what it
// is copied to on the way, and by what it was copied from.
func TestRowsOfCalls(t *testing.T) {
	seen := map[outcome]int{}
	for row := range 60 {
		d := dice(row)
		envs, frames := 1+row%4, 1+row%7
		k, m := New(api.Size{Cores: 1, Envs: envs, Frames: frames}), modelOf(envs, frames)
		left, leftModel := k, m
		for range 400 {
			env, c := int(d.below(envs)), d.call(envs)
			if d.below(40) == 0 {
				left, leftModel = k, m
				k, m = k.Copy(), m.twin()
			}
			want := m.do(env, c)
			if want.a.Err != api.OK || !want.ok {
				seen[want]++
			}
			b := bench{t, k}
			b.do(want, env, c[:]...)
			b.expect(c, m.sight())
		}
		bench{t, left}.expect("left behind", leftModel.sight())
	}
	for _, o := range []outcome{waits, fails(api.ErrNone), fails(api.ErrBusy), fails(api.ErrRights), fails(api.ErrFull), fails(api.ErrFault)} {
		if seen[o] < 50 {
			t.Errorf("%v came up %d times: the rows are too tame", o, seen[o])
		}
	}
}
