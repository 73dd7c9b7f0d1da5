package plain

import (
	"fmt"
	"math"
	"slices"
	"testing"

	"messuage/api"
)

// less are the rights that have none that those rights have not.
var less = map[int][]int{1: {1}, 2: {2}, 3: {1, 2, 3}}

func allowed(rights, of uint64) bool { return slices.Contains(less[int(of)], int(rights)) }

func TestCAlloc(t *testing.T) {
	b := made(t, 2, 16)
	for frame := range 16 {
		env, slot := frame%2, 7-frame/2
		want := b.sight()
		want.caps[place{env, slot}] = api.Cap{Frame: frame, Rights: 3, Env: -1}
		want.free = want.free[1:]
		b.well(env, api.CAlloc, uint64(slot))
		b.expect(slot, want)
	}
	b.do(fails(api.ErrBusy), 1, api.CAlloc, 0)
}

func TestCAllocOfTheLeastFreeFrame(t *testing.T) {
	b := made(t, 1, 5)
	for slot := range uint64(5) {
		b.well(0, api.CAlloc, slot)
	}
	for _, slot := range []uint64{3, 1, 4} {
		b.do(tells(1), 0, api.CDrop, slot)
	}
	b.expectFree(1, 3, 4)
	for at, frame := range []int{1, 3, 4} {
		b.well(0, api.CAlloc, uint64(5+at))
		b.expectCap(0, 5+at, api.Cap{Frame: frame, Rights: 3, Env: -1})
	}
	b.expectFree()
}

func TestCAllocOfWordsThatWereWritten(t *testing.T) {
	b := made(t, 1, 2)
	b.well(0, api.CAlloc, 0)
	b.well(0, api.CAlloc, 1)
	b.well(0, api.CMap, 0, 0, 3)
	b.well(0, api.CMap, 1, 1, 3)
	var written [16]uint64
	for at := range uint64(16) {
		written[at] = math.MaxUint64 - at
		b.well(0, api.UStore, 0, at, written[at])
		b.well(0, api.UStore, 1, at, written[at])
	}
	b.expectFrame(0, written)
	b.do(tells(1), 0, api.CDrop, 0)
	b.do(fails(api.ErrBusy), 0, api.CAlloc, 1)
	b.well(0, api.CAlloc, 0)
	b.expectFrame(0, [16]uint64{})
	b.expectFrame(1, written)
}

func TestCAllocOfAFreeFrameThatWasTouched(t *testing.T) {
	b := made(t, 1, 1)
	b.k.Touch(0, api.Call{api.UStore, 0, 9, 7})
	b.expectFrame(0, [16]uint64{9: 7})
	b.well(0, api.CAlloc, 0)
	b.expectFrame(0, [16]uint64{})
}

func TestCAllocRefused(t *testing.T) {
	b := made(t, 2, 2)
	b.well(0, api.CAlloc, 0)
	b.do(fails(api.ErrBusy), 0, api.CAlloc, 0)
	b.well(1, api.CAlloc, 0)
	b.do(fails(api.ErrFull), 0, api.CAlloc, 1)
	b.do(fails(api.ErrFull), 1, api.CAlloc, 7)
	b.do(fails(api.ErrBusy), 1, api.CAlloc, 0)
	b.well(0, api.CDerive, 0, 5, 1)
	b.do(fails(api.ErrBusy), 0, api.CAlloc, 5)
	b.do(tells(2), 0, api.CDrop, 0)
	b.well(0, api.CAlloc, 5)
}

// hand is the words of a CDerive, or of a CGrant to that environment.
func hand(grant bool, src, to, dst, rights uint64) []uint64 {
	if grant {
		return []uint64{api.CGrant, src, to, dst, rights}
	}
	return []uint64{api.CDerive, src, dst, rights}
}

// hands does f for CDerive, and for CGrant to its own environment and to another
// one.
func hands(t *testing.T, f func(t *testing.T, grant bool, to uint64)) {
	t.Run("CDerive", func(t *testing.T) { f(t, false, 0) })
	t.Run("CGrant to itself", func(t *testing.T) { f(t, true, 0) })
	t.Run("CGrant", func(t *testing.T) { f(t, true, 1) })
}

func TestCDeriveAndCGrant(t *testing.T) {
	hands(t, func(t *testing.T, grant bool, to uint64) {
		for of := uint64(1); of <= 3; of++ {
			for rights := uint64(1); rights <= 3; rights++ {
				b := made(t, 2, 3)
				b.well(1, api.CAlloc, 0)
				b.well(0, api.CAlloc, 7)
				b.well(0, api.CDerive, 7, 3, of)
				want := b.sight()
				o := fails(api.ErrRights)
				if allowed(rights, of) {
					o = tells(0)
					want.caps[place{int(to), 6}] = api.Cap{Frame: 1, Rights: int(rights), Env: 0, Slot: 3}
				}
				b.do(o, 0, hand(grant, 3, to, 6, rights)...)
				b.expect(fmt.Sprint(of, rights), want)
			}
		}
	})
}

func TestCDeriveAndCGrantRefused(t *testing.T) {
	hands(t, func(t *testing.T, grant bool, to uint64) {
		b := made(t, 2, 2)
		b.well(0, api.CAlloc, 3)
		b.well(0, api.CDerive, 3, 4, 1)
		b.well(int(to), api.CAlloc, 5)
		for _, src := range []uint64{0, 1, 2, 6, 7} {
			b.do(fails(api.ErrNone), 0, hand(grant, src, to, 6, 1)...)
			b.do(fails(api.ErrNone), 0, hand(grant, src, to, 5, 1)...)
			b.do(fails(api.ErrNone), 0, hand(grant, src, to, src, 3)...)
		}
		b.do(fails(api.ErrBusy), 0, hand(grant, 3, to, 5, 1)...)
		b.do(fails(api.ErrBusy), 0, hand(grant, 4, to, 5, 3)...)
		b.do(fails(api.ErrRights), 0, hand(grant, 4, to, 6, 2)...)
		b.do(fails(api.ErrRights), 0, hand(grant, 4, to, 6, 3)...)
		b.well(0, hand(grant, 4, to, 6, 1)...)
		b.do(fails(api.ErrBusy), 0, hand(grant, 4, to, 6, 1)...)
	})
}

func TestCDeriveAndCGrantIntoItsOwnSlot(t *testing.T) {
	b := made(t, 2, 1)
	b.well(0, api.CAlloc, 3)
	for rights := uint64(1); rights <= 3; rights++ {
		b.do(fails(api.ErrBusy), 0, api.CDerive, 3, 3, rights)
		b.do(fails(api.ErrBusy), 0, api.CGrant, 3, 0, 3, rights)
	}
	b.well(0, api.CGrant, 3, 1, 3, 3)
	b.do(fails(api.ErrNone), 0, api.CDerive, 4, 4, 1)
}

// seven is a kernel in which frame 1 has the most capabilities that it may
// have, and frame 0 one.
func seven(t *testing.T) bench {
	b := made(t, 2, 3)
	b.well(1, api.CAlloc, 0)
	b.well(0, api.CAlloc, 0)
	b.well(0, api.CDerive, 0, 1, 1)
	b.well(0, api.CGrant, 0, 1, 7, 3)
	b.well(1, api.CDerive, 7, 6, 3)
	b.well(1, api.CGrant, 6, 0, 2, 2)
	b.well(0, api.CDerive, 0, 3, 3)
	b.well(0, api.CGrant, 3, 1, 5, 3)
	return b
}

func TestEighthCapabilityOfAFrame(t *testing.T) {
	hands(t, func(t *testing.T, grant bool, to uint64) {
		b := seven(t)
		b.do(fails(api.ErrFull), 0, hand(grant, 0, to, 4, 1)...)
		b.do(fails(api.ErrFull), 0, hand(grant, 3, to, 4, 3)...)
		b.do(fails(api.ErrNone), 0, hand(grant, 5, to, 4, 1)...)
		b.do(fails(api.ErrBusy), 0, hand(grant, 0, to, 0, 1)...)
		b.do(fails(api.ErrRights), 0, hand(grant, 1, to, 4, 3)...)
		b.do(tells(1), 0, api.CDrop, 2)
		b.well(0, hand(grant, 0, to, 4, 1)...)
		b.do(fails(api.ErrFull), 0, hand(grant, 0, to, 2, 1)...)
		b.do(tells(2), 0, api.CDrop, 3)
		b.well(0, hand(grant, 0, to, 2, 1)...)
		b.well(0, hand(grant, 0, to, 3, 1)...)
		b.do(fails(api.ErrFull), 0, api.CDerive, 0, 5, 1)
	})
}

func TestCapabilitiesOfAnotherFrameDoNotCount(t *testing.T) {
	b := seven(t)
	for slot := uint64(1); slot <= 4; slot++ {
		b.well(1, api.CDerive, 0, slot, 1)
	}
	b.well(1, api.CGrant, 0, 0, 4, 1)
	b.well(1, api.CGrant, 0, 0, 5, 1)
	b.do(fails(api.ErrFull), 1, api.CGrant, 0, 0, 6, 1)
	b.well(0, api.CAlloc, 6)
	b.well(0, api.CDerive, 6, 7, 1)
}

// A frame that was let go starts anew: its first capability is its only one.
func TestCapabilitiesOfAFrameThatWasLetGo(t *testing.T) {
	b := seven(t)
	b.do(tells(7), 0, api.CDrop, 0)
	b.expectFree(1, 2)
	b.well(0, api.CAlloc, 0)
	b.expectCap(0, 0, api.Cap{Frame: 1, Rights: 3, Env: -1})
	for slot := uint64(1); slot <= 6; slot++ {
		b.well(0, api.CDerive, 0, slot, 1)
	}
	b.do(fails(api.ErrFull), 0, api.CDerive, 0, 7, 1)
}

// lost is what goes of the family with a capability, itself not counted.
type lost struct {
	place
	below []place
	free  []int // when it itself goes, too
}

func losses() []lost {
	return []lost{
		{place{0, 0}, []place{{0, 1}, {0, 2}, {1, 1}, {1, 2}, {2, 5}}, []int{0, 2, 3}},
		{place{0, 1}, []place{{1, 1}, {1, 2}}, []int{2, 3}},
		{place{1, 1}, []place{{1, 2}}, []int{2, 3}},
		{place{1, 2}, nil, []int{2, 3}},
		{place{2, 5}, nil, []int{2, 3}},
		{place{0, 2}, nil, []int{2, 3}},
		{place{1, 0}, []place{{0, 7}}, []int{1, 2, 3}},
		{place{0, 7}, nil, []int{2, 3}},
	}
}

// without is what is told once these capabilities are gone, and the entries by
// them.
func (s sight) without(gone []place) sight {
	for _, p := range gone {
		delete(s.caps, p)
		for q, e := range s.ptes {
			if q.env == p.env && e.Slot == p.at {
				delete(s.ptes, q)
			}
		}
	}
	return s
}

func TestCRevoke(t *testing.T) {
	for _, l := range losses() {
		b := family(t)
		want := b.sight().without(l.below)
		b.do(tells(uint64(len(l.below))), l.env, api.CRevoke, uint64(l.at))
		b.expect(l, want)
		b.do(tells(0), l.env, api.CRevoke, uint64(l.at))
		b.expect(l, want)
	}
}

func TestCDrop(t *testing.T) {
	for _, l := range losses() {
		b := family(t)
		gone := append(l.below, l.place)
		want := b.sight().without(gone)
		want.free = l.free
		b.do(tells(uint64(len(gone))), l.env, api.CDrop, uint64(l.at))
		b.expect(l, want)
		b.do(fails(api.ErrNone), l.env, api.CDrop, uint64(l.at))
		b.do(fails(api.ErrNone), l.env, api.CRevoke, uint64(l.at))
	}
}

func TestCDropBehindCRevoke(t *testing.T) {
	for _, l := range losses() {
		b := family(t)
		want := b.sight().without(append(l.below, l.place))
		want.free = l.free
		b.do(tells(uint64(len(l.below))), l.env, api.CRevoke, uint64(l.at))
		b.do(tells(1), l.env, api.CDrop, uint64(l.at))
		b.expect(l, want)
	}
}

func TestCRevokeAndCDropOfAnEmptySlot(t *testing.T) {
	b := family(t)
	for env := range 3 {
		for slot := range uint64(8) {
			if _, ok := b.k.Cap(env, int(slot)); !ok {
				b.do(fails(api.ErrNone), env, api.CRevoke, slot)
				b.do(fails(api.ErrNone), env, api.CDrop, slot)
			}
		}
	}
}

// What comes into a slot later is by itself: no entry comes back with it.
func TestSlotThatIsFilledAgain(t *testing.T) {
	b := family(t)
	b.do(tells(3), 0, api.CDrop, 1)
	b.well(0, api.CAlloc, 1)
	b.well(0, api.CGrant, 1, 1, 1, 3)
	for _, p := range []place{{0, 1}, {1, 1}, {1, 6}, {1, 2}} {
		b.expectNoPte(p.env, p.at)
	}
	b.expectCap(0, 1, api.Cap{Frame: 2, Rights: 3, Env: -1})
	b.well(1, api.CMap, 1, 1, 3)
	b.expectPte(1, 1, api.Pte{Frame: 2, Slot: 1, Rights: 3})
}

// A frame's words go on when its first capability is revoked, or another one
// dropped.
func TestCRevokeAndCDropLeaveTheWords(t *testing.T) {
	b := family(t)
	b.do(tells(5), 0, api.CRevoke, 0)
	b.do(tells(33), 0, api.ULoad, 0, 3)
	b.do(tells(1), 0, api.CDrop, 7)
	b.do(tells(44), 1, api.ULoad, 0, 15)
	b.do(fails(api.ErrFault), 0, api.ULoad, 7, 15)
}

func TestCMap(t *testing.T) {
	for of := uint64(1); of <= 3; of++ {
		for rights := uint64(1); rights <= 3; rights++ {
			for page := range uint64(8) {
				b := made(t, 2, 2)
				b.well(1, api.CAlloc, 0)
				b.well(1, api.CAlloc, 1)
				b.well(1, api.CGrant, 1, 0, 5, of)
				want := b.sight()
				o := fails(api.ErrRights)
				if allowed(rights, of) {
					o = tells(0)
					want.ptes[place{0, int(page)}] = api.Pte{Frame: 1, Slot: 5, Rights: int(rights)}
				}
				b.do(o, 0, api.CMap, page, 5, rights)
				b.expect(fmt.Sprint(of, rights, page), want)
			}
		}
	}
}

func TestCMapRefused(t *testing.T) {
	b := family(t)
	for rights := uint64(1); rights <= 3; rights++ {
		b.do(fails(api.ErrNone), 0, api.CMap, 3, 3, rights)
		b.do(fails(api.ErrNone), 0, api.CMap, 0, 3, rights)
		b.do(fails(api.ErrBusy), 0, api.CMap, 0, 0, rights)
		b.do(fails(api.ErrBusy), 0, api.CMap, 0, 2, rights)
		b.do(fails(api.ErrBusy), 2, api.CMap, 5, 5, rights)
	}
	b.do(fails(api.ErrRights), 0, api.CMap, 3, 2, 3)
	b.do(fails(api.ErrRights), 0, api.CMap, 3, 2, 1)
	b.do(fails(api.ErrRights), 2, api.CMap, 3, 5, 2)
	b.well(0, api.CMap, 3, 2, 2)
	b.well(2, api.CMap, 0, 5, 1)
}

func TestCUnmap(t *testing.T) {
	b := family(t)
	for env := range 3 {
		for page := range uint64(8) {
			want := b.sight()
			p := place{env, int(page)}
			if _, ok := want.ptes[p]; ok {
				delete(want.ptes, p)
				b.well(env, api.CUnmap, page)
				b.expect(p, want)
			}
			b.do(fails(api.ErrNone), env, api.CUnmap, page)
		}
	}
	b.well(0, api.CMap, 0, 1, 2)
	b.expectPte(0, 0, api.Pte{Frame: 0, Slot: 1, Rights: 2})
}

func TestCProtect(t *testing.T) {
	for of := uint64(1); of <= 3; of++ {
		for was := uint64(1); was <= 3; was++ {
			for rights := uint64(1); rights <= 3 && allowed(was, of); rights++ {
				b := made(t, 2, 2)
				b.well(1, api.CAlloc, 0)
				b.well(1, api.CAlloc, 1)
				b.well(1, api.CGrant, 1, 0, 5, of)
				b.well(0, api.CMap, 2, 5, was)
				b.well(0, api.CMap, 3, 5, was)
				want := b.sight()
				o := fails(api.ErrRights)
				if allowed(rights, of) {
					o = tells(0)
					want.ptes[place{0, 2}] = api.Pte{Frame: 1, Slot: 5, Rights: int(rights)}
				}
				b.do(o, 0, api.CProtect, 2, rights)
				b.expect(fmt.Sprint(of, was, rights), want)
			}
		}
	}
}

func TestCProtectToLessAndBack(t *testing.T) {
	b := family(t)
	b.well(0, api.CProtect, 0, 1)
	b.do(fails(api.ErrFault), 0, api.UStore, 0, 3, 9)
	b.do(tells(33), 0, api.ULoad, 0, 3)
	b.well(0, api.CProtect, 0, 2)
	b.do(fails(api.ErrFault), 0, api.ULoad, 0, 3)
	b.well(0, api.UStore, 0, 3, 9)
	b.well(0, api.CProtect, 0, 3)
	b.do(tells(9), 0, api.UAdd, 0, 3, 1)
}

func TestCProtectRefused(t *testing.T) {
	b := family(t)
	for rights := uint64(1); rights <= 3; rights++ {
		b.do(fails(api.ErrNone), 0, api.CProtect, 3, rights)
		b.do(fails(api.ErrNone), 2, api.CProtect, 0, rights)
	}
	b.do(fails(api.ErrRights), 0, api.CProtect, 2, 3)
	b.do(fails(api.ErrRights), 0, api.CProtect, 2, 1)
	b.do(fails(api.ErrRights), 1, api.CProtect, 2, 2)
	b.do(fails(api.ErrRights), 2, api.CProtect, 5, 3)
	b.well(2, api.CProtect, 5, 1)
}

func TestCSleep(t *testing.T) {
	const most = math.MaxUint64
	type row struct {
		word, value uint64
		holds       [5]bool // by operator
	}
	for _, r := range []row{
		{7, 7, [5]bool{api.PEqual: true}},
		{7, 6, [5]bool{api.PNot: true, api.PMore: true}},
		{7, 8, [5]bool{api.PNot: true, api.PLess: true}},
		{0, 0, [5]bool{api.PEqual: true}},
		{0, most, [5]bool{api.PNot: true, api.PLess: true}},
		{most, 0, [5]bool{api.PNot: true, api.PMore: true}},
		{1 << 63, 1, [5]bool{api.PNot: true, api.PMore: true}},
	} {
		for op := uint64(1); op <= 4; op++ {
			for at := range uint64(16) {
				b := family(t)
				b.k.Touch(0, api.Call{api.UStore, 0, at, r.word})
				o := waits
				if r.holds[op] {
					o = tells(r.word)
				}
				want := b.sight()
				b.do(o, 0, api.CSleep, 0, at, op, r.value)
				b.do(o, 1, api.CSleep, 2, at, op, r.value)
				b.expect(r, want)
			}
		}
	}
}

// What one waits for comes by and by: the same call waits until then.
func TestCSleepThatIsDoneAgain(t *testing.T) {
	b := family(t)
	sleep := []uint64{api.CSleep, 5, 3, api.PEqual, 35}
	b.do(waits, 2, sleep...)
	b.do(tells(33), 0, api.UAdd, 0, 3, 1)
	b.do(waits, 2, sleep...)
	b.do(tells(34), 1, api.UAdd, 6, 3, 1)
	b.do(tells(35), 2, sleep...)
	b.do(tells(35), 2, sleep...)
	b.do(tells(1), 2, api.CDrop, 5)
	b.do(fails(api.ErrNone), 2, sleep...)
}

func TestCSleepRefused(t *testing.T) {
	b := family(t)
	for op := uint64(1); op <= 4; op++ {
		b.do(fails(api.ErrNone), 0, api.CSleep, 3, 0, op, 0)
		b.do(fails(api.ErrNone), 2, api.CSleep, 0, 0, op, 1)
		b.do(fails(api.ErrRights), 0, api.CSleep, 2, 3, op, 33)
		b.do(fails(api.ErrRights), 0, api.CSleep, 2, 3, op, 34)
		b.do(fails(api.ErrRights), 0, api.CSleep, 2, 3, op, 32)
	}
}

func TestCYield(t *testing.T) {
	b := family(t)
	want := b.sight()
	for env := range 3 {
		b.well(env, api.CYield)
		b.expect(env, want)
	}
}

func TestLoadsAndStores(t *testing.T) {
	const most = math.MaxUint64
	for _, x := range []struct {
		needs     uint64
		c         api.Call // with 0 as its page and its place
		was       uint64
		val, then uint64
	}{
		{1, api.Call{api.ULoad}, 5, 5, 5},
		{1, api.Call{api.ULoad}, most, most, most},
		{2, api.Call{api.UStore, 0, 0, 9}, 5, 0, 9},
		{2, api.Call{api.UStore, 0, 0, most}, 5, 0, most},
		{3, api.Call{api.UCas, 0, 0, 5, 9}, 5, 5, 9},
		{3, api.Call{api.UCas, 0, 0, 5, 5}, 5, 5, 5},
		{3, api.Call{api.UCas, 0, 0, 4, 9}, 5, 5, 5},
		{3, api.Call{api.UCas, 0, 0, 9, 5}, 5, 5, 5},
		{3, api.Call{api.UCas, 0, 0, most, 0}, most, most, 0},
		{3, api.Call{api.UAdd, 0, 0, 9}, 5, 5, 14},
		{3, api.Call{api.UAdd, 0, 0, 0}, 5, 5, 5},
		{3, api.Call{api.UAdd, 0, 0, most}, 5, 5, 4},
		{3, api.Call{api.UAdd, 0, 0, 1}, most, most, 0},
	} {
		for rights := uint64(1); rights <= 3; rights++ {
			for at := range uint64(16) {
				b := made(t, 2, 3)
				b.well(1, api.CAlloc, 0)
				b.well(0, api.CAlloc, 4)
				b.well(0, api.CMap, 6, 4, rights)
				b.k.Touch(1, api.Call{api.UStore, 0, at, x.was})
				c := x.c
				c[1], c[2] = 6, at
				want := b.sight()
				o := fails(api.ErrFault)
				if allowed(x.needs, rights) {
					o = tells(x.val)
					want.words[1][at] = x.then
				}
				b.do(o, 0, c[:]...)
				b.expect(fmt.Sprint(c, rights), want)
			}
		}
	}
}

func TestLoadsAndStoresOfAPageWithoutAnEntry(t *testing.T) {
	b := family(t)
	for env := range 3 {
		for page := range uint64(8) {
			if _, ok := b.k.Pte(env, int(page)); ok {
				continue
			}
			for _, kind := range []uint64{api.ULoad, api.UStore, api.UCas, api.UAdd} {
				b.do(fails(api.ErrFault), env, kind, page, 3, 33, 1)
			}
		}
	}
	b.well(0, api.CUnmap, 0)
	b.do(fails(api.ErrFault), 0, api.ULoad, 0, 3)
}

// Two environments share a frame by pages of their own, and what one stores the
// other one loads.
func TestSharedFrame(t *testing.T) {
	b := family(t)
	b.well(0, api.UStore, 2, 8, 1)
	b.do(tells(1), 1, api.UAdd, 6, 8, 1)
	b.do(tells(2), 2, api.ULoad, 5, 8)
	b.do(tells(2), 0, api.UCas, 1, 8, 2, 7)
	b.do(tells(7), 1, api.ULoad, 2, 8)
	b.do(fails(api.ErrFault), 2, api.UStore, 5, 8, 9)
	b.do(tells(7), 2, api.CSleep, 5, 8, api.PMore, 2)
	b.do(tells(44), 0, api.ULoad, 7, 15)
	b.expectFrame(0, [16]uint64{3: 33, 8: 7})
	b.expectFrame(1, [16]uint64{15: 44})
	b.well(1, api.CUnmap, 6)
	b.do(tells(7), 2, api.ULoad, 5, 8)
	b.do(tells(33), 0, api.ULoad, 0, 3)
}
