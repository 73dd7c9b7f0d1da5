package plain

import (
	"math"
	"slices"
	"testing"

	"messuage/api"
)

// right is a call that environment 0 of the family does well, and the words
// that may not stand behind its number.
type right struct {
	c    []uint64
	val  uint64
	none [][]uint64
}

func words(list []int) []uint64 {
	var ws []uint64
	for _, n := range list {
		ws = append(ws, uint64(n))
	}
	return ws
}

func rights() []right {
	slot, page, at, env := words(wrong(8)), words(wrong(8)), words(wrong(16)), words(wrong(3))
	rights, op := append(words(wrong(4)), 0, 6, 7), append(words(wrong(5)), 0, 7, 8)
	return []right{
		{[]uint64{api.CAlloc, 3}, 0, [][]uint64{slot}},
		{[]uint64{api.CDerive, 0, 3, 3}, 0, [][]uint64{slot, slot, rights}},
		{[]uint64{api.CGrant, 0, 2, 6, 1}, 0, [][]uint64{slot, env, slot, rights}},
		{[]uint64{api.CRevoke, 1}, 2, [][]uint64{slot}},
		{[]uint64{api.CDrop, 1}, 3, [][]uint64{slot}},
		{[]uint64{api.CMap, 3, 1, 3}, 0, [][]uint64{page, slot, rights}},
		{[]uint64{api.CUnmap, 1}, 0, [][]uint64{page}},
		{[]uint64{api.CProtect, 0, 1}, 0, [][]uint64{page, rights}},
		{[]uint64{api.CSleep, 0, 3, api.PEqual, 33}, 33, [][]uint64{slot, at, op, nil}},
		{[]uint64{api.CYield}, 0, nil},
		{[]uint64{api.ULoad, 0, 3}, 33, [][]uint64{page, at}},
		{[]uint64{api.UStore, 0, 3, 9}, 0, [][]uint64{page, at, nil}},
		{[]uint64{api.UCas, 0, 3, 33, 9}, 33, [][]uint64{page, at, nil, nil}},
		{[]uint64{api.UAdd, 0, 3, 9}, 33, [][]uint64{page, at, nil}},
	}
}

func TestEachKindIsThere(t *testing.T) {
	var there []uint64
	for _, r := range rights() {
		there = append(there, r.c[0])
		family(t).do(tells(r.val), 0, r.c...)
	}
	if !slices.Equal(there, kinds) {
		t.Errorf("%v, not %v", there, kinds)
	}
}

func TestWordsThatAreNone(t *testing.T) {
	b := family(t)
	for _, r := range rights() {
		for i, none := range r.none {
			for _, w := range none {
				c := slices.Clone(r.c)
				c[i+1] = w
				b.do(fails(api.ErrArg), 0, c...)
			}
		}
		all := slices.Clone(r.c)
		for i := range r.none {
			all[i+1] = math.MaxUint64
		}
		if len(r.none) > 0 {
			b.do(fails(api.ErrArg), 0, all...)
		}
	}
}

func TestWordsThatDoNotCount(t *testing.T) {
	for _, w := range []uint64{0, 1, 8, 99, 1 << 32, 1 << 63, math.MaxUint64} {
		for _, r := range rights() {
			plainly, b := family(t), family(t)
			plainly.do(tells(r.val), 0, r.c...)
			c := slices.Clone(r.c)
			for len(c) < 5 {
				c = append(c, w)
			}
			b.do(tells(r.val), 0, c...)
			b.expect(c, plainly.sight())
		}
	}
}

func TestKindsThatAreNone(t *testing.T) {
	b := family(t)
	for kind := range uint64(300) {
		if !slices.Contains(kinds, kind) {
			b.do(fails(api.ErrCall), 0, kind, 1, 1, 1, 1)
		}
	}
	for _, kind := range append(words(wrong(300)), 1<<32+api.CAlloc, 1<<32+api.UAdd, 1<<63+api.CYield) {
		b.do(fails(api.ErrCall), 0, kind, 3, 3, 3, 3)
		b.do(fails(api.ErrCall), 0, kind, 99, math.MaxUint64)
	}
}

func TestEnvironmentsThatAreNone(t *testing.T) {
	b := family(t)
	for _, env := range wrong(3) {
		for _, r := range rights() {
			b.do(fails(api.ErrOff), env, r.c...)
		}
		b.do(fails(api.ErrOff), env, 99)
		b.do(fails(api.ErrOff), env, api.CAlloc, 8)
	}
}

// A CGrant's environment is one of this kernel, whatever others have.
func TestCGrantToEachEnvironment(t *testing.T) {
	for envs := 1; envs <= 4; envs++ {
		for to := range uint64(6) {
			b := made(t, envs, 1)
			b.well(0, api.CAlloc, 0)
			o := fails(api.ErrArg)
			if to < uint64(envs) {
				o = tells(0)
			}
			b.do(o, 0, api.CGrant, 0, to, 5, 1)
		}
	}
}

// What is wrong with a call's words counts ahead of what its kind asks.
func TestWordsAheadOfTheCall(t *testing.T) {
	b := made(t, 1, 1)
	b.well(0, api.CAlloc, 0)
	b.do(fails(api.ErrArg), 0, api.CAlloc, 8)
	b.do(fails(api.ErrArg), 0, api.CDerive, 1, 0, 0)
	b.do(fails(api.ErrArg), 0, api.CDerive, 0, 0, 4)
	b.do(fails(api.ErrArg), 0, api.CGrant, 1, 1, 0, 1)
	b.do(fails(api.ErrArg), 0, api.CMap, 0, 1, 0)
	b.do(fails(api.ErrArg), 0, api.CProtect, 0, 0)
	b.do(fails(api.ErrArg), 0, api.CSleep, 1, 0, 0, 0)
	b.do(fails(api.ErrArg), 0, api.CSleep, 1, 16, 1, 0)
	b.do(fails(api.ErrArg), 0, api.ULoad, 1, 16)
	b.do(fails(api.ErrArg), 0, api.UCas, 1, 16)
}
