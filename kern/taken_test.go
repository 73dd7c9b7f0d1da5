package kern

import (
	"slices"
	"testing"

	"messuage/api"
)

// fills has that core load that page, as far as it may.
func (b *bench) fills(core, env int, page uint64) {
	if b.begin(core, env, call(api.ULoad, page, 3)) {
		b.step(core)
	}
}

// Who fills the page when its taker has begun has it taken as well.
func TestFilledAmidst(t *testing.T) {
	for name, c := range takers() {
		for steps := range 3 {
			b := shared(t)
			b.evict(1, 1, 0)
			b.evict(1, 1, 1)
			b.begin(0, 0, call(c...))
			for range steps {
				b.step(0)
			}
			for core := 1; core < 3; core++ {
				b.fills(core, 0, 1)
				b.fills(core, 1, 5)
			}
			b.settle()
			b.expectTaken(name)
		}
	}
}

// expectTaken holds all buffers against the entries, once all calls have ended.
func (b *bench) expectTaken(what string) {
	for core := range b.s.Cores {
		if b.k.Busy(core) || b.k.Mail(core) != 0 {
			b.t.Errorf("%s: core %d: busy %v, Mail %d", what, core, b.k.Busy(core), b.k.Mail(core))
		}
		for _, l := range b.lines(core) {
			if p, ok := b.k.Pte(l.Env, l.Page); !ok || !within(l, p) {
				b.t.Errorf("%s: core %d has %v, more than %v", what, core, l, p)
			}
		}
	}
}

// Who lost the page amidst that, by Evict or otherwise, does not get it again.
func TestLostAmidst(t *testing.T) {
	for name, c := range takers() {
		b := shared(t)
		b.begin(0, 0, call(c...))
		b.step(0)
		for core := 1; core < 3; core++ {
			b.evict(core, 1, 0)
			b.evict(core, 1, 1)
			b.fills(core, 0, 1)
			b.fills(core, 1, 5)
		}
		b.expectHidden(name)
		for core := 1; core < 3; core++ {
			for b.post(core) {
			}
			b.fills(core, 0, 1)
			b.fills(core, 1, 5)
		}
		b.expectHidden(name)
		b.settle()
		b.expectTaken(name)
	}
}

// expectHidden is that the cores 1 and 2 have nothing that a call takes.
func (b *bench) expectHidden(what string) {
	for core := 1; core < 3; core++ {
		for _, l := range b.lines(core) {
			for _, p := range b.entries(l.Env, l.Page) {
				if !within(l, p) {
					b.t.Errorf("%s: core %d has %v", what, core, l)
				}
			}
		}
	}
}

// A page that another one maps amidst a taker that will take it comes into no
// buffer: nobody would tell that buffer.
func TestMappedAmidst(t *testing.T) {
	for n, c := range losers() {
		b := begun(t, c)
		b.alone(2, 1, api.OK, api.CMap, 6, 2, 3)
		b.alone(2, 1, api.OK, api.CProtect, 6, 1)
		b.alone(2, 1, api.OK, api.CProtect, 6, 3)
		for core := 1; core < 3; core++ {
			b.alone(core, 1, api.ErrFault, api.ULoad, 6, 3)
		}
		b.settle()
		if a := b.last(0).Answer; a != (api.Answer{Val: n}) {
			t.Errorf("%v: %v", c, a)
		}
		b.expectTaken("mapped")
	}
}

// Rights that come back amidst a CProtect that takes them come into no buffer.
func TestRightsAmidst(t *testing.T) {
	b := shared(t)
	b.begin(0, 0, call(api.CProtect, 1, 1))
	b.step(0)
	b.begin(2, 0, call(api.CProtect, 1, 2))
	b.step(2)
	b.post(2)
	for b.post(1) {
	}
	b.step(2)
	b.alone(2, 0, api.OK, api.CProtect, 1, 3)
	b.fills(1, 0, 1)
	b.alone(1, 0, api.ErrFault, api.UStore, 1, 3, 9)
	b.settle()
	b.expectTaken("CProtect")
}

// A frame that was dropped is handed on when no buffer has it any more, and its
// words are 0 then.
func TestFrameHandedOn(t *testing.T) {
	b := made(t, 3, 2, 1)
	b.well(0, 0, []uint64{api.CAlloc, 0}, []uint64{api.CMap, 1, 0, 3}, []uint64{api.CGrant, 0, 1, 2, 3})
	b.well(1, 0, []uint64{api.UStore, 1, 3, 7})
	b.well(1, 1, []uint64{api.CMap, 5, 2, 3}, []uint64{api.UStore, 5, 4, 8})
	b.well(2, 1, []uint64{api.ULoad, 5, 3})
	b.begin(0, 0, call(api.CDrop, 0))
	for range 3 {
		b.step(0)
		b.alone(2, 1, api.ErrFull, api.CAlloc, 4)
		b.alone(1, 0, api.OK, api.UStore, 1, 15, 9)
	}
	b.settle()
	if f := b.k.Free(); !slices.Equal(f, []int{0}) {
		t.Errorf("Free: %v", f)
	}
	b.alone(2, 1, api.OK, api.CAlloc, 4)
	for core := range 3 {
		if len(b.lines(core)) != 0 {
			t.Errorf("core %d has %v", core, b.lines(core))
		}
		b.alone(core, 0, api.ErrFault, api.ULoad, 1, 3)
		b.alone(core, 1, api.ErrFault, api.ULoad, 5, 3)
	}
	if f := b.k.Frame(0); !slices.Equal(f, make([]uint64, 16)) {
		t.Errorf("Frame: %v", f)
	}
	b.alone(2, 1, api.OK, api.CMap, 5, 4, 3)
	b.alone(0, 1, api.OK, api.ULoad, 5, 3)
	if e := b.last(0); e.Answer.Val != 0 {
		t.Errorf("%v", e)
	}
}

// A frame that goes from hand to hand is never seen by who had it.
func TestFrameFromHandToHand(t *testing.T) {
	b := made(t, 4, 4, 1)
	for n := range 12 {
		env := n % 4
		b.alone(env, env, api.OK, api.CAlloc, 1)
		b.alone(env, env, api.OK, api.CMap, 2, 1, 3)
		for core := range 4 {
			b.alone(core, env, api.OK, api.UAdd, 2, 0, 1)
			if a := b.last(core).Answer; a.Val != uint64(core) {
				t.Errorf("core %d: %v", core, a)
			}
		}
		b.begin(n%3, env, call(api.CDrop, 1))
		b.settle()
		b.expectTaken("CDrop")
	}
}
