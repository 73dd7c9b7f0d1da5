package kern

import (
	"testing"

	"messuage/api"
)

// By calls that no taker is amidst, each load and store goes by the plain
// kernel's entry, whatever core it is on.
func TestAccessOfAnEntry(t *testing.T) {
	for rights := uint64(1); rights <= 3; rights++ {
		b := made(t, 2, 2, 2)
		b.well(0, 0, []uint64{api.CAlloc, 0}, []uint64{api.CAlloc, 1}, []uint64{api.CMap, 3, 1, rights})
		for core := range 2 {
			for _, c := range [][]uint64{{api.ULoad, 3, 9}, {api.UStore, 3, 9, 5}, {api.UCas, 3, 9, 5, 6}, {api.UAdd, 3, 9, 7}, {api.ULoad, 2, 9}} {
				want, line := api.ErrFault, api.Line{}
				if c[1] == 3 && lets(int(rights), call(c...)) {
					want, line = api.OK, api.Line{Page: 3, Frame: 1, Rights: int(rights)}
				}
				b.alone(core, 0, want, c...)
				if got := b.last(core).Line; got != line {
					t.Errorf("%v: by %v, not %v", c, got, line)
				}
				b.alone(core, 1, api.ErrFault, c...)
			}
		}
	}
}

// accesses does a load, a store and a UAdd of that page by each core.
func (b *bench) accesses(env int, page uint64) {
	for core := range b.s.Cores {
		for _, c := range [][]uint64{{api.ULoad, page, 3}, {api.UStore, page, 3, 9}, {api.UAdd, page, 3, 1}} {
			if b.begin(core, env, call(c...)) {
				b.step(core)
			}
		}
	}
}

// Behind each step of each taker all cores load and store as they may: the
// bench holds each one against what that page's entry is, and will be.
func TestAccessAmidstTakers(t *testing.T) {
	for _, c := range takers() {
		for steps := range 4 {
			for posts := range 4 {
				b := shared(t)
				b.begin(0, 0, call(c...))
				for range steps {
					b.step(0)
				}
				for core := range posts {
					b.post(core)
				}
				b.accesses(0, 1)
				b.accesses(1, 5)
				b.settle()
				b.accesses(0, 1)
				b.accesses(1, 5)
			}
		}
	}
}

// Amidst a CUnmap who has the page in its buffer has it still, and who has not
// does not get it any more; behind it both have not.
func TestAccessAmidstCUnmap(t *testing.T) {
	b := begun(t, []uint64{api.CUnmap, 1})
	b.alone(1, 0, api.OK, api.UStore, 1, 3, 40)
	b.alone(1, 0, api.OK, api.UAdd, 1, 3, 2)
	b.alone(2, 0, api.ErrFault, api.ULoad, 1, 3)
	b.alone(2, 1, api.OK, api.ULoad, 5, 3)
	if e := b.last(2); e.Answer.Val != 42 {
		t.Errorf("what was stored amidst: %v", e)
	}
	b.post(1)
	b.alone(1, 0, api.ErrFault, api.ULoad, 1, 3)
	b.settle()
	for core := range 3 {
		b.alone(core, 0, api.ErrFault, api.ULoad, 1, 3)
	}
}

// Amidst a CProtect what stays can be had by all.
func TestAccessAmidstCProtect(t *testing.T) {
	b := begun(t, []uint64{api.CProtect, 1, 1})
	b.alone(1, 0, api.OK, api.UStore, 1, 3, 40)
	b.alone(2, 0, api.OK, api.ULoad, 1, 3)
	b.alone(2, 0, api.ErrFault, api.UStore, 1, 3, 9)
	b.post(1)
	b.alone(1, 0, api.ErrFault, api.UStore, 1, 3, 9)
	b.alone(1, 0, api.OK, api.ULoad, 1, 3)
	b.settle()
	for core := range 3 {
		b.alone(core, 0, api.OK, api.ULoad, 1, 3)
		if e := b.last(core); e.Answer.Val != 40 || e.Line.Rights != 1 {
			t.Errorf("%v", e)
		}
	}
}

// A CRevoke takes what came from the slot, not what is by the slot itself.
func TestAccessAmidstCRevoke(t *testing.T) {
	b := begun(t, []uint64{api.CRevoke, 0})
	b.alone(2, 0, api.OK, api.UStore, 1, 3, 40)
	b.alone(2, 1, api.OK, api.ULoad, 5, 3)
	b.evict(2, 1, 0)
	b.evict(2, 1, 1)
	b.alone(2, 1, api.ErrFault, api.ULoad, 5, 3)
	b.alone(2, 0, api.OK, api.ULoad, 1, 3)
	b.settle()
	b.alone(2, 0, api.OK, api.UAdd, 1, 3, 2)
}

// What a taker that waits does not take is found as ever.
func TestAccessOfWhatStays(t *testing.T) {
	for _, c := range [][]uint64{{api.CUnmap, 1}, {api.CProtect, 1, 2}} {
		b := shared(t)
		b.well(0, 0, []uint64{api.CMap, 2, 0, 3})
		b.begin(0, 0, call(c...))
		b.step(0)
		for core := 1; core < 3; core++ {
			for set := range 4 {
				b.evict(core, set, 0)
				b.evict(core, set, 1)
			}
			b.alone(core, 0, api.OK, api.UAdd, 2, 3, 2)
			b.alone(core, 1, api.OK, api.UAdd, 5, 3, 2)
		}
		if !b.busy(0) {
			t.Errorf("%v does not wait", c)
		}
	}
}

// A taker that will fail, or whose words are wrong, hides nothing, however far
// it is.
func TestAccessAmidstWhatFails(t *testing.T) {
	for _, c := range [][]uint64{{api.CUnmap, 2}, {api.CUnmap, 9}, {api.CProtect, 1, 0}, {api.CProtect, 1, 4}, {api.CProtect, 5, 1}, {api.CRevoke, 1}, {api.CDrop, 5}, {api.CDrop, 1 << 32}, {api.CRevoke, 8}} {
		for steps := range 3 {
			b := shared(t)
			b.well(0, 0, []uint64{api.CDerive, 0, 6, 1})
			b.begin(0, 0, call(c...))
			for range steps {
				b.step(0)
			}
			for core := 1; core < 3; core++ {
				b.alone(core, 0, api.OK, api.UAdd, 1, 3, 2)
				b.alone(core, 1, api.OK, api.UAdd, 5, 3, 2)
			}
		}
	}
}

// Of a page by a capability of less rights a CProtect to more fails.
func TestAccessAmidstCProtectThatFails(t *testing.T) {
	b := shared(t)
	b.well(0, 0, []uint64{api.CDerive, 0, 6, 1}, []uint64{api.CMap, 3, 6, 1})
	b.well(1, 0, []uint64{api.ULoad, 3, 3})
	for steps := range 3 {
		b.begin(0, 0, call(api.CProtect, 3, 2))
		for range steps {
			b.step(0)
		}
		b.alone(1, 0, api.OK, api.ULoad, 3, 3)
		b.alone(2, 0, api.OK, api.ULoad, 3, 3)
		b.settle()
		if e := b.last(0); e.Answer.Err != api.ErrRights {
			t.Errorf("%v", e)
		}
	}
}

// The words are one memory, whichever core and page they are reached by.
func TestAccessOfOneWord(t *testing.T) {
	b := shared(t)
	for n := range uint64(20) {
		core, env := int(n%3), int(n/3%2)
		page := []uint64{1, 5}[env]
		b.alone(core, env, api.OK, api.UAdd, page, 3, 1)
		if e := b.last(core); e.Answer.Val != 8+n {
			t.Errorf("%v: not %d", e, 8+n)
		}
	}
	b.alone(2, 0, api.OK, api.CSleep, 0, 3, api.PEqual, 28)
	if f := b.k.Frame(0); f[3] != 28 {
		t.Errorf("Frame: %v", f)
	}
}
