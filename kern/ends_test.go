package kern

import (
	"testing"

	"messuage/api"
)

// Two cores that take pages from each other at once both end.
func TestTwoTakeFromEachOther(t *testing.T) {
	for _, c := range tellers() {
		for _, d := range tellers() {
			b := eight(t)
			for core := range 2 {
				b.well(core, 0, []uint64{api.ULoad, 1, 0}, []uint64{api.ULoad, 5, 0})
			}
			// The other one's page is 5, by slot 5.
			e := call(d...)
			e[1] = 5
			b.begin(0, 0, call(c...))
			b.begin(1, 0, e)
			b.settle()
			b.expectTaken("two")
			for core := range 2 {
				if a := b.last(core).Answer; a.Err != api.OK {
					t.Errorf("%v, %v: %v", c, d, a)
				}
			}
		}
	}
}

// So do eight, each of which takes a page that all have.
func TestEightTakeFromEachOther(t *testing.T) {
	for name, c := range tellers() {
		b := eight(t)
		b.quiet = true
		for core := range 8 {
			for page := range uint64(8) {
				b.well(core, 0, []uint64{api.ULoad, page, 0})
			}
		}
		b.quiet = false
		for core := range 8 {
			e := call(c...)
			e[1] = uint64(core)
			b.begin(core, 0, e)
		}
		b.settle()
		b.expectTaken(name)
	}
}

// Eight take the same page.
func TestEightTakeOnePage(t *testing.T) {
	for name, c := range tellers() {
		b := eight(t)
		for core := range 8 {
			b.well(core, 0, []uint64{api.ULoad, 1, 0})
		}
		for core := range 8 {
			b.begin(core, 0, call(c...))
		}
		b.settle()
		b.expectTaken(name)
	}
}

// Each of seven capabilities, one from the other, is revoked and dropped at
// once, with the page by each of them in each buffer.
func TestEightTakeAChain(t *testing.T) {
	for _, kind := range []uint64{api.CRevoke, api.CDrop} {
		b := made(t, 8, 1, 1)
		b.quiet = true
		b.well(0, 0, []uint64{api.CAlloc, 0}, []uint64{api.CMap, 0, 0, 3})
		for slot := uint64(1); slot < 7; slot++ {
			b.well(0, 0, []uint64{api.CDerive, slot - 1, slot, 3}, []uint64{api.CMap, slot, slot, 3})
		}
		for core := range 8 {
			for page := range uint64(7) {
				b.well(core, 0, []uint64{api.ULoad, page, 0})
			}
		}
		b.quiet = false
		for core := range 8 {
			b.begin(core, 0, call(kind, uint64(7-core)))
		}
		b.settle()
		b.expectTaken("a chain")
	}
}

// rounds are done until that core's call has ended, with more before each.
func (b *bench) rounds(core int, more func()) {
	for range 1000 {
		more()
		b.round()
		if !b.busy(core) {
			return
		}
	}
	b.t.Errorf("K4: %v", b.last(core))
}

// A taker ends though others never stop loading its page.
func TestTakerAmongLoads(t *testing.T) {
	for _, c := range takers() {
		b := shared(t)
		b.begin(0, 0, call(c...))
		b.rounds(0, func() {
			b.begin(1, 0, call(api.ULoad, 1, 3))
			b.begin(2, 1, call(api.ULoad, 5, 3))
		})
	}
}

// A taker ends though others never stop mapping and loading what it takes, and
// deriving from it.
func TestTakerAmongMaps(t *testing.T) {
	for _, c := range losers() {
		b := shared(t)
		b.begin(0, 0, call(c...))
		n := uint64(0)
		b.rounds(0, func() {
			n++
			b.begin(1, 1, [][5]uint64{{api.CMap, 6, 2, 3}, {api.ULoad, 6, 3}, {api.CUnmap, 6}}[n%3])
			b.begin(2, 1, [][5]uint64{{api.CDerive, 2, 3, 3}, {api.CMap, 7, 3, 3}, {api.UStore, 7, 3}, {api.CDrop, 3}}[n%4])
		})
	}
}

// One sleeps until the word is so, and no longer.
func TestSleep(t *testing.T) {
	for op, until := range map[uint64]uint64{api.PEqual: 9, api.PNot: 8, api.PLess: 6, api.PMore: 8} {
		value := map[uint64]uint64{api.PEqual: 9, api.PNot: 7, api.PLess: 7, api.PMore: 7}[op]
		b := shared(t)
		b.alone(0, 0, api.OK, api.UStore, 1, 3, 7)
		b.begin(1, 0, call(api.CSleep, 0, 3, op, value))
		for range 50 {
			b.round()
		}
		if e := b.last(1); !b.busy(1) || e.Effect != 0 || e.Answer != (api.Answer{}) {
			t.Errorf("operator %d: %v", op, e)
		}
		b.alone(0, 0, api.OK, api.UStore, 1, 3, until)
		b.settle()
		if e := b.last(1); b.busy(1) || e.Answer != (api.Answer{Val: until}) {
			t.Errorf("operator %d: %v", op, e)
		}
	}
}

// What is so already does not wait at all.
func TestSleepOfWhatIsSo(t *testing.T) {
	b := shared(t)
	b.alone(1, 0, api.OK, api.CSleep, 0, 3, api.PMore, 2)
	if a := b.last(1).Answer; a.Val != 8 {
		t.Errorf("%v", a)
	}
}

// Seven sleep for one word, each until it is more than another number; the last
// one for what does not come.
func TestSevenSleep(t *testing.T) {
	b := made(t, 8, 1, 1)
	b.well(0, 0, []uint64{api.CAlloc, 0}, []uint64{api.CMap, 1, 0, 3})
	for core := 1; core < 8; core++ {
		b.begin(core, 0, call(api.CSleep, 0, 0, api.PMore, uint64(core)))
	}
	for v := range uint64(7) {
		b.alone(0, 0, api.OK, api.UStore, 1, 0, v)
		b.settle()
		for core := 1; core < 8; core++ {
			if b.busy(core) != (v <= uint64(core)) {
				t.Errorf("core %d at %d: busy %v", core, v, b.busy(core))
			}
		}
	}
}

// A sleeper from which the capability goes does not wait any more.
func TestSleeperWhoseCapabilityGoes(t *testing.T) {
	for _, c := range losers() {
		b := shared(t)
		b.begin(1, 1, call(api.CSleep, 2, 3, api.PEqual, 99))
		b.round()
		b.begin(0, 0, call(c...))
		b.settle()
		if a := b.last(1).Answer; b.busy(1) || a != (api.Answer{Err: api.ErrNone}) {
			t.Errorf("%v: %v", c, a)
		}
	}
}

// Without rights to read one does not sleep.
func TestSleepWithoutRights(t *testing.T) {
	b := shared(t)
	b.well(0, 0, []uint64{api.CDerive, 0, 3, 2})
	b.alone(1, 0, api.ErrRights, api.CSleep, 3, 3, api.PEqual, 99)
	b.alone(1, 0, api.ErrNone, api.CSleep, 4, 3, api.PEqual, 99)
	b.alone(1, 0, api.ErrArg, api.CSleep, 0, 16, api.PEqual, 99)
}

// A sleeper amidst whose sleep pages are taken from its buffer is posted there.
func TestSleeperHears(t *testing.T) {
	b := shared(t)
	b.begin(1, 0, call(api.CSleep, 0, 3, api.PEqual, 99))
	b.step(1)
	b.begin(0, 0, call(api.CUnmap, 1))
	b.settle()
	if b.busy(0) || !b.busy(1) || len(b.lines(1)) != 1 {
		t.Errorf("%v", b.events)
	}
}
