package kern

import (
	"testing"

	"messuage/api"
)

// mixed is a kernel of four cores. Environment 0 has frame 0 by slot 0 at page
// 1, and environment 1 has of it slot 2 and page 5; environment 1 has frame 1 by
// slot 3 at page 2, and environment 0 has of it slot 4 and page 3; environment 0
// has frame 2 alone, by slot 6 at page 6. The cores 1 and 2 have all of that in
// their buffers.
func mixed(t *testing.T) *bench {
	b := made(t, 4, 2, 4)
	b.quiet = true
	b.well(0, 0, []uint64{api.CAlloc, 0}, []uint64{api.CMap, 1, 0, 3}, []uint64{api.CGrant, 0, 1, 2, 3})
	b.well(0, 1, []uint64{api.CMap, 5, 2, 3}, []uint64{api.CAlloc, 3}, []uint64{api.CMap, 2, 3, 3}, []uint64{api.CGrant, 3, 0, 4, 3})
	b.well(0, 0, []uint64{api.CMap, 3, 4, 3}, []uint64{api.CAlloc, 6}, []uint64{api.CMap, 6, 6, 3})
	for core := 1; core < 3; core++ {
		b.well(core, 0, []uint64{api.ULoad, 1, 0}, []uint64{api.ULoad, 3, 0}, []uint64{api.ULoad, 6, 0})
		b.well(core, 1, []uint64{api.ULoad, 5, 0}, []uint64{api.ULoad, 2, 0})
	}
	b.quiet = false
	b.expect("mixed")
	return b
}

// strangers are calls of environment 1 of all kinds, which take from
// environment 0 what it has of it, among them.
func strangers() [][]uint64 {
	return [][]uint64{
		{api.CAlloc, 7}, {api.CDerive, 3, 7, 1}, {api.CGrant, 3, 0, 7, 1}, {api.CRevoke, 2}, {api.CRevoke, 3}, {api.CDrop, 2}, {api.CDrop, 3}, {api.CMap, 6, 3, 1},
		{api.CUnmap, 2}, {api.CUnmap, 5}, {api.CProtect, 2, 1}, {api.CProtect, 5, 2}, {api.CSleep, 3, 0, api.PEqual, 99}, {api.CYield}, {api.ULoad, 2, 0}, {api.UStore, 5, 0, 1},
	}
}

// freely does on core 3, for environment 0, what waits for nobody.
func (b *bench) freely() {
	b.alone(3, 0, api.OK, api.CMap, 0, 6, 3)
	b.alone(3, 0, api.OK, api.CDerive, 6, 5, 1)
	b.alone(3, 0, api.OK, api.CMap, 7, 5, 1)
	b.alone(3, 0, api.OK, api.CYield)
	b.alone(3, 0, api.OK, api.ULoad, 6, 0)
	b.alone(3, 0, api.OK, api.UStore, 0, 0, 5)
	b.alone(3, 0, api.OK, api.UAdd, 6, 0, 5)
	b.alone(3, 0, api.OK, api.ULoad, 7, 0)
	b.alone(3, 0, api.ErrBusy, api.CMap, 7, 5, 1)
	b.alone(3, 0, api.ErrRights, api.CDerive, 5, 2, 3)
	b.alone(3, 0, api.ErrFault, api.UStore, 7, 0, 5)
	if a := b.last(3).Answer; a != (api.Answer{Err: api.ErrFault}) {
		b.t.Errorf("%v", a)
	}
}

// shares does on core 3, for environment 0, what waits for nobody either,
// though it is of frames that others have.
func (b *bench) shares() {
	for _, c := range [][]uint64{{api.CMap, 2, 0, 3}, {api.CMap, 4, 4, 3}, {api.ULoad, 1, 0}, {api.UStore, 3, 0, 7}, {api.UAdd, 2, 0, 7}, {api.UCas, 4, 0, 7, 8}} {
		if !b.begin(3, 0, call(c...)) {
			b.t.Fatalf("Begin %v: false", c)
		}
		for n := 0; b.busy(3); n++ {
			if n == 1000 {
				b.t.Fatalf("K5: %v has not ended", c)
			}
			b.step(3)
		}
	}
}

// One other core stands still, wherever in its call.
func TestAnotherStandsStill(t *testing.T) {
	for _, c := range strangers() {
		for steps := range 4 {
			for posts := range 3 {
				b := mixed(t)
				b.begin(1, 1, call(c...))
				for range steps {
					b.step(1)
				}
				for core := range posts {
					b.post(core + 1)
				}
				b.freely()
				b.shares()
			}
		}
	}
}

// All other cores do, each in a call of its own, wherever in these.
func TestAllOthersStandStill(t *testing.T) {
	for _, c := range strangers() {
		for _, d := range strangers() {
			for steps := range 3 {
				b := mixed(t)
				b.begin(0, 1, call(api.CDrop, 3))
				b.begin(1, 1, call(c...))
				b.begin(2, 1, call(d...))
				for range steps {
					b.step(2)
					b.step(1)
					b.step(0)
				}
				b.freely()
				b.shares()
			}
		}
	}
}

// A core of the same environment waits for one of another environment that
// stands still: who needs nothing of it does not.
func TestOneOfItsOwnWaits(t *testing.T) {
	for _, c := range [][]uint64{{api.CUnmap, 6}, {api.CUnmap, 1}, {api.CProtect, 3, 1}, {api.CDrop, 0}, {api.CRevoke, 0}, {api.CDrop, 4}} {
		for steps := range 4 {
			b := mixed(t)
			b.begin(1, 1, call(api.CUnmap, 2))
			b.step(1)
			b.begin(2, 0, call(c...))
			for range steps {
				b.step(2)
			}
			if steps > 0 && !b.busy(2) {
				t.Errorf("%v does not wait", c)
			}
			if c[1] != 6 {
				b.freely()
			}
			b.shares()
			for _, d := range [][]uint64{{api.CMap, 5, 6, 3}, {api.CDerive, 6, 7, 3}, {api.CYield}} {
				b.alone(3, 0, api.OK, d...)
			}
		}
	}
}
