package plain

import (
	"fmt"
	"slices"
	"testing"

	"messuage/api"
)

// deed is a call of an environment.
type deed struct {
	env int
	c   api.Call
}

// deeds are calls that each change the family.
func deeds() []deed {
	return []deed{
		{0, api.Call{api.CAlloc, 3}},
		{2, api.Call{api.CAlloc, 0}},
		{0, api.Call{api.CDerive, 0, 3, 3}},
		{0, api.Call{api.CDerive, 7, 3, 1}},
		{1, api.Call{api.CGrant, 1, 2, 6, 1}},
		{0, api.Call{api.CRevoke, 0}},
		{0, api.Call{api.CRevoke, 1}},
		{1, api.Call{api.CRevoke, 0}},
		{0, api.Call{api.CDrop, 0}},
		{1, api.Call{api.CDrop, 0}},
		{1, api.Call{api.CDrop, 2}},
		{2, api.Call{api.CDrop, 5}},
		{0, api.Call{api.CMap, 3, 1, 3}},
		{2, api.Call{api.CMap, 0, 5, 1}},
		{0, api.Call{api.CUnmap, 0}},
		{1, api.Call{api.CUnmap, 6}},
		{0, api.Call{api.CProtect, 0, 1}},
		{1, api.Call{api.CProtect, 1, 3}},
		{0, api.Call{api.UStore, 0, 3, 9}},
		{1, api.Call{api.UCas, 6, 3, 33, 9}},
		{1, api.Call{api.UAdd, 0, 15, 9}},
	}
}

func (b bench) changes(d deed) {
	b.t.Helper()
	before := b.sight()
	if o := got(b.k.Do(d.env, d.c)); o.a.Err != api.OK || !o.ok {
		b.t.Fatalf("Do %v: %v", d, o)
	}
	if b.sight().is(before) {
		b.t.Fatalf("Do %v changes nothing", d)
	}
}

// alone does d to b, which other, alike, is not to see, and then to other.
func (b bench) alone(d deed, other bench) {
	b.t.Helper()
	was := other.sight()
	b.changes(d)
	other.expect(fmt.Sprint("done to the other one: ", d), was)
	other.changes(d)
	other.expect(fmt.Sprint("done to both: ", d), b.sight())
}

func TestCopyIsAlike(t *testing.T) {
	b := family(t)
	want := b.sight()
	b.copied().expect("Copy", want)
	b.copied().copied().expect("Copy of a Copy", want)
	b.expect("copied", want)
	for envs := 1; envs <= 4; envs++ {
		for frames := 1; frames <= 16; frames++ {
			made(t, envs, frames).copied().expect("Copy", modelOf(envs, frames).sight())
		}
	}
}

func TestCopyGoesItsOwnWay(t *testing.T) {
	for _, d := range deeds() {
		b := family(t)
		b.copied().alone(d, b)
	}
}

func TestWhatWasCopiedGoesItsOwnWay(t *testing.T) {
	for _, d := range deeds() {
		b := family(t)
		b.alone(d, b.copied())
	}
}

func TestTouchOfACopy(t *testing.T) {
	b := family(t)
	was := b.sight()
	x := b.copied()
	for frame := range 4 {
		x.k.Touch(frame, api.Call{api.UStore, 0, 3, 99})
	}
	b.expect("touched the copy", was)
	was = x.sight()
	for frame := range 4 {
		b.k.Touch(frame, api.Call{api.UStore, 0, 3, 98})
	}
	x.expect("touched what was copied", was)
}

// A copy knows how many capabilities each frame has, and which came from which.
func TestCopyKeepsCountAndDescent(t *testing.T) {
	b := seven(t).copied()
	b.do(fails(api.ErrFull), 0, api.CDerive, 0, 4, 1)
	b.well(1, api.CDerive, 0, 1, 1)
	b.do(tells(2), 1, api.CRevoke, 7)
	b.well(0, api.CDerive, 0, 4, 1)
	b.do(tells(6), 0, api.CDrop, 0)
	b.expectFree(1, 2)
}

// Capabilities are copied wherever those stand that they came from, behind them
// too.
func TestCopyOfWhatCameBackwards(t *testing.T) {
	b := made(t, 4, 2)
	b.well(3, api.CAlloc, 7)
	b.well(3, api.CGrant, 7, 3, 6, 3)
	b.well(3, api.CGrant, 6, 2, 7, 3)
	b.well(2, api.CGrant, 7, 2, 0, 3)
	b.well(2, api.CGrant, 0, 0, 3, 3)
	b.well(0, api.CGrant, 3, 0, 1, 2)
	b.well(0, api.CGrant, 1, 0, 0, 2)
	b.copied().expect("Copy", b.sight())
	x := b.copied()
	x.do(tells(4), 2, api.CRevoke, 7)
	x.do(tells(3), 3, api.CDrop, 7)
	x.expectFree(0, 1)
}

// spoil writes into a list and into its spare room.
func spoil[T any](list []T, v T) {
	list = list[:cap(list)]
	for at := range list {
		list[at] = v
	}
}

func TestListsAreNewMemory(t *testing.T) {
	b := family(t)
	want := b.sight()
	for frame := range 4 {
		one, other := b.k.Frame(frame), b.k.Frame(frame)
		was := slices.Clone(other)
		spoil(one, 99)
		one = append(one, 98, 97)
		if !slices.Equal(other, was) {
			t.Errorf("Frame %d: what another call answered is %v, not %v", frame, other, was)
		}
		b.expect(one, want)
	}
	one, other := b.k.Free(), b.k.Free()
	spoil(one, 0)
	one = append(one, 1, 0)
	if !slices.Equal(other, []int{2, 3}) {
		t.Errorf("Free: what another call answered is %v", other)
	}
	b.expect(one, want)
	b.well(0, api.CAlloc, 3)
	b.expectCap(0, 3, api.Cap{Frame: 2, Rights: 3, Env: -1})
}

// Whoever appends to what two calls answered has two lists.
func TestListsHaveTheirOwnSpareRoom(t *testing.T) {
	b := family(t)
	one, other := b.k.Free(), b.k.Free()
	one, other = append(one, 7), append(other, 8)
	if one[2] != 7 || other[2] != 8 {
		t.Errorf("Free: %v, %v", one, other)
	}
	ws, vs := b.k.Frame(1), b.k.Frame(1)
	ws, vs = append(ws, 7), append(vs, 8)
	if ws[16] != 7 || vs[16] != 8 {
		t.Errorf("Frame: %v, %v", ws, vs)
	}
}

// What a list told stays as it is when the kernel goes on.
func TestListsStay(t *testing.T) {
	b := family(t)
	free, frame := b.k.Free(), b.k.Frame(0)
	b.well(0, api.CAlloc, 3)
	b.well(0, api.UStore, 0, 3, 9)
	b.do(tells(2), 1, api.CDrop, 0)
	if !slices.Equal(free, []int{2, 3}) || frame[3] != 33 {
		t.Errorf("Free: %v; Frame: %v", free, frame)
	}
}

func TestTwoKernels(t *testing.T) {
	for _, d := range deeds() {
		family(t).alone(d, family(t))
	}
}
