package kern

import (
	"slices"
	"testing"

	"messuage/api"
)

// eight is a kernel of eight cores, one environment, whose pages 0 to 7 are
// there, each of a frame of its own and by a slot of its own.
func eight(t *testing.T) *bench {
	b := made(t, 8, 2, 16)
	for page := range uint64(8) {
		b.well(0, 0, []uint64{api.CAlloc, page}, []uint64{api.CMap, page, page, 3})
	}
	return b
}

func (b *bench) lines(core int) []api.Line {
	return slices.DeleteFunc(b.k.Lines(core), func(l api.Line) bool { return l == gone })
}

// A load goes by the buffer's line, where it lets it, though the table has more.
func TestLoadByTheBuffer(t *testing.T) {
	b := eight(t)
	b.well(0, 0, []uint64{api.CProtect, 1, 1})
	b.well(3, 0, []uint64{api.ULoad, 1, 0})
	b.well(0, 0, []uint64{api.CProtect, 1, 3})
	b.well(3, 0, []uint64{api.ULoad, 1, 0})
	if l := b.last(3).Line; l.Rights != 1 {
		t.Errorf("by %v", l)
	}
	b.well(3, 0, []uint64{api.UStore, 1, 0, 5})
	if l := b.last(3).Line; l.Rights != 3 || !slices.Equal(b.lines(3), []api.Line{l}) {
		t.Errorf("by %v, in %v", l, b.lines(3))
	}
}

// A set has two places: the third page takes that which was filled longest ago.
func TestLoadTakesAPlace(t *testing.T) {
	b := eight(t)
	b.well(5, 0, []uint64{api.ULoad, 1, 0}, []uint64{api.ULoad, 5, 0}, []uint64{api.ULoad, 1, 0})
	b.does(0, 0, api.CGrant, 2, 1, 0, 3)
	b.well(0, 1, []uint64{api.CMap, 1, 0, 1})
	b.well(5, 1, []uint64{api.ULoad, 1, 0})
	want := []api.Line{{Env: 1, Page: 1, Frame: 2, Rights: 1}, {Env: 0, Page: 5, Frame: 5, Rights: 3}}
	if got := b.lines(5); !slices.Equal(got, want) {
		t.Errorf("%v, not %v", got, want)
	}
}

// A load that fails loses the line of its page, and no other one.
func TestLoadLosesALine(t *testing.T) {
	b := eight(t)
	b.well(0, 0, []uint64{api.CProtect, 1, 1})
	b.well(3, 0, []uint64{api.ULoad, 1, 0}, []uint64{api.ULoad, 5, 0})
	if a := b.does(3, 0, api.UStore, 1, 0, 5); a.Err != api.ErrFault {
		t.Errorf("UStore: %v", a)
	}
	if got := b.lines(3); !slices.Equal(got, []api.Line{{Page: 5, Frame: 5, Rights: 3}}) {
		t.Errorf("%v", got)
	}
}

// others are calls that do not take the page 1 of what shared makes, of either
// environment; those that fail among them.
func others() [][]uint64 {
	return [][]uint64{
		{api.CAlloc, 6}, {api.CAlloc, 0}, {api.CDerive, 0, 5, 1}, {api.CGrant, 0, 1, 7, 3}, {api.CRevoke, 5}, {api.CRevoke, 6}, {api.CDrop, 5}, {api.CDrop, 6}, {api.CDrop, 4},
		{api.CMap, 1, 0, 1}, {api.CMap, 2, 0, 3}, {api.CProtect, 2, 1}, {api.CUnmap, 2}, {api.CUnmap, 6}, {api.CUnmap, 9}, {api.CProtect, 1, 3}, {api.CProtect, 1, 0},
		{api.CSleep, 0, 3, api.PMore, 1}, {api.CYield}, {99}, {api.ULoad, 8}, {api.ULoad, 2, 2}, {api.ULoad, 3, 2},
	}
}

// What a load filled stays, whatever else is done that does not take the page:
// on its own core, too.
func TestLinesStay(t *testing.T) {
	for core := range 3 {
		b := shared(t)
		was := b.k.Lines(1)
		for _, c := range others() {
			for env := range 2 {
				if env == 1 && (c[0] == api.CRevoke || c[0] == api.CDrop) {
					continue
				}
				b.does(core, env, c...)
				if got := b.k.Lines(1); got[2] != was[2] || got[3] != was[3] {
					t.Errorf("%v: %v, not %v", c, got, was)
				}
			}
		}
		for range 3 {
			b.evict(0, 1, 0)
			b.evict(2, 1, 0)
			b.post(0)
			b.post(2)
		}
		if got := b.k.Lines(1); got[2] != was[2] || got[3] != was[3] {
			t.Errorf("%v, not %v", got, was)
		}
	}
}

// The core's own call takes a line of its own buffer by the core's own steps.
func TestOwnLinesGo(t *testing.T) {
	for name, c := range takers() {
		b := shared(t)
		b.begin(1, 0, call(c...))
		if len(b.lines(1)) != 2 {
			t.Errorf("%s: %v by Begin", name, b.lines(1))
		}
		b.step(0)
		b.step(2)
		if len(b.lines(1)) != 2 {
			t.Errorf("%s: %v by steps of others", name, b.lines(1))
		}
		b.settle()
		for _, l := range b.lines(1) {
			if p, ok := b.k.Pte(l.Env, l.Page); !ok || !within(l, p) {
				t.Errorf("%s: %v is left", name, l)
			}
		}
		// Of the other environment's page CUnmap and CProtect take nothing.
		if wide := c[0] == api.CRevoke || c[0] == api.CDrop; slices.Contains(b.lines(1), api.Line{Env: 1, Page: 5, Rights: 3}) == wide {
			t.Errorf("%s: %v", name, b.lines(1))
		}
	}
}

// tellers are calls of environment 0 that take page 1, and rights of it, of
// what eight makes.
func tellers() map[string][]uint64 {
	return map[string][]uint64{
		"CUnmap":            {api.CUnmap, 1},
		"CProtect to read":  {api.CProtect, 1, 1},
		"CProtect to write": {api.CProtect, 1, 2},
		"CDrop":             {api.CDrop, 1},
	}
}

// Each other core that has the page is interrupted, and no call ends ahead of
// the last one that hears of it; the others are not waited for.
func TestInterrupts(t *testing.T) {
	for name, c := range tellers() {
		for holders := range 1 << 7 {
			b := eight(t)
			b.quiet = holders%16 != 1
			last := 0
			for core := 1; core < 8; core++ {
				if holders>>(core-1)&1 != 0 {
					b.well(core, 0, []uint64{api.ULoad, 1, 0})
					last = core
				} else {
					b.well(core, 0, []uint64{api.ULoad, 5, 0})
				}
			}
			b.begin(0, 0, call(c...))
			b.interruptsAndEnds(name, holders, last)
		}
	}
}

func (b *bench) interruptsAndEnds(name string, holders, last int) {
	for range 10 {
		b.step(0)
	}
	for core := 1; core < 8; core++ {
		if has := holders>>(core-1)&1 != 0; has != (b.k.Mail(core) > 0) {
			b.t.Errorf("%s, %b: core %d: Mail %d", name, holders, core, b.k.Mail(core))
		}
	}
	for core := 1; core <= last; core++ {
		if !b.k.Busy(0) {
			b.t.Errorf("%s, %b: ended ahead of core %d", name, holders, core)
		}
		for b.post(core) {
		}
		for range 10 {
			b.step(0)
		}
	}
	if b.k.Busy(0) || b.last(0).Answer.Err != api.OK {
		b.t.Errorf("%s, %b: not ended, though all have heard", name, holders)
	}
	b.expect(name)
}

// A core that lost the page by an Evict, or by a load of its own, is to hear of
// it all the same.
func TestInterruptsAreHeard(t *testing.T) {
	for name, c := range tellers() {
		b := eight(t)
		b.does(0, 0, api.CGrant, 5, 1, 0, 3)
		b.well(0, 1, []uint64{api.CMap, 1, 0, 3})
		b.well(1, 0, []uint64{api.ULoad, 1, 0})
		b.well(2, 0, []uint64{api.ULoad, 1, 0})
		b.begin(0, 0, call(c...))
		b.step(0)
		b.evict(1, 1, 0)
		for _, core := range []int{2, 3} {
			b.begin(core, 0, call(api.ULoad, 5, 0))
			b.step(core)
			b.begin(core, 1, call(api.ULoad, 1, 0))
			b.step(core)
		}
		for _, core := range []int{1, 2} {
			for range 10 {
				b.step(0)
			}
			if !b.busy(0) || !b.post(core) {
				t.Errorf("%s: ended, though core %d has not heard", name, core)
			}
		}
		if b.step(0); b.busy(0) {
			t.Errorf("%s: not ended", name)
		}
	}
}

// Of what has ended nothing is kept for cores that were told nothing.
func TestNothingIsLeftToHear(t *testing.T) {
	b := eight(t)
	for range 5 {
		b.well(1, 0, []uint64{api.ULoad, 1, 0})
		b.well(0, 0, []uint64{api.CUnmap, 1}, []uint64{api.CMap, 1, 1, 3})
	}
	if last := b.k.epochs.Now(); last != 5 {
		t.Errorf("%d epochs", last)
	}
	for epoch := range uint64(6) {
		if waits := b.k.epochs.Waits(epoch); waits != nil {
			t.Errorf("epoch %d: %v", epoch, waits)
		}
	}
}

// Interrupts are sent by the call's own steps: not by its Begin, nor by what
// other cores do.
func TestInterruptsByOwnSteps(t *testing.T) {
	for name, c := range tellers() {
		b := eight(t)
		for core := range 4 {
			b.well(core, 0, []uint64{api.ULoad, 1, 0})
		}
		b.begin(0, 0, call(c...))
		for core := 1; core < 4; core++ {
			b.begin(core, 0, call(api.ULoad, 1, 0))
			b.step(core)
			b.post(core)
			b.evict(core, 0, 0)
		}
		for core := range 4 {
			if b.k.Mail(core) != 0 {
				t.Errorf("%s: core %d: Mail %d", name, core, b.k.Mail(core))
			}
		}
		b.step(0)
		for core := 1; core < 4; core++ {
			if b.k.Mail(core) != 1 {
				t.Errorf("%s: core %d: Mail %d", name, core, b.k.Mail(core))
			}
		}
		b.settle()
	}
}

// What takes nothing interrupts nobody.
func TestNoInterrupts(t *testing.T) {
	b := shared(t)
	for _, c := range others() {
		b.begin(0, 0, call(c...))
		for b.step(0) {
		}
		if b.k.Mail(1) != 0 || b.k.Mail(2) != 0 {
			t.Errorf("%v: interrupts", c)
		}
	}
}

// Nor does a CProtect that gives rights.
func TestNoInterruptsOfMoreRights(t *testing.T) {
	b := eight(t)
	b.well(0, 0, []uint64{api.CProtect, 1, 1})
	b.well(3, 0, []uint64{api.ULoad, 1, 0})
	b.alone(0, 0, api.OK, api.CProtect, 1, 3)
	b.alone(0, 0, api.OK, api.CProtect, 1, 3)
	if b.k.Mail(3) != 0 || len(b.lines(3)) != 1 {
		t.Errorf("Mail %d, %v", b.k.Mail(3), b.lines(3))
	}
}

// A buffer whose line has none of the rights that go is of a core that has the
// page: it is interrupted, and keeps the line.
func TestInterruptOfALineThatStays(t *testing.T) {
	b := eight(t)
	b.well(0, 0, []uint64{api.CProtect, 1, 1})
	b.well(3, 0, []uint64{api.ULoad, 1, 0})
	b.well(0, 0, []uint64{api.CProtect, 1, 3})
	b.begin(0, 0, call(api.CProtect, 1, 1))
	b.step(0)
	if b.k.Mail(3) != 1 {
		t.Errorf("Mail %d", b.k.Mail(3))
	}
	b.settle()
	if got := b.lines(3); !slices.Equal(got, []api.Line{{Page: 1, Frame: 1, Rights: 1}}) {
		t.Errorf("%v", got)
	}
}
