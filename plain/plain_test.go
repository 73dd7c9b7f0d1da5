package plain

import (
	"errors"
	"fmt"
	"maps"
	"math"
	"slices"
	"testing"

	"messuage/api"
	"messuage/trap"
)

// kinds are all numbers of calls.
var kinds = []uint64{
	api.CAlloc, api.CDerive, api.CGrant, api.CRevoke, api.CDrop, api.CMap, api.CUnmap, api.CProtect, api.CSleep, api.CYield,
	api.ULoad, api.UStore, api.UCas, api.UAdd,
}

// wrong are numbers of which none is 0 to most - 1, those with them that become
// one when they lose their upper bits.
func wrong(most int) []int {
	return []int{
		most, most + 1, most + 16, 64, 256, 1 << 16, 1 << 31, 1 << 32, 1<<32 + 1, math.MaxInt - 1, math.MaxInt,
		math.MinInt, math.MinInt + 1, -1 << 32, -1<<32 + 1, -256, -16, -8, -2, -1,
	}
}

// outcome is what Do tells.
type outcome struct {
	a  api.Answer
	ok bool
}

func tells(val uint64) outcome          { return outcome{api.Answer{Val: val}, true} }
func fails(err api.Errno) outcome       { return outcome{api.Answer{Err: err}, true} }
func got(a api.Answer, ok bool) outcome { return outcome{a, ok} }

var waits = outcome{}

// place is a slot or a page of an environment.
type place struct{ env, at int }

// sight is all that a kernel tells of itself.
type sight struct {
	caps  map[place]api.Cap
	ptes  map[place]api.Pte
	words [][]uint64
	free  []int
}

func (s sight) is(o sight) bool {
	return maps.Equal(s.caps, o.caps) && maps.Equal(s.ptes, o.ptes) &&
		slices.EqualFunc(s.words, o.words, slices.Equal) && slices.Equal(s.free, o.free)
}

// bench is a kernel that is tested.
type bench struct {
	t *testing.T
	k *Kernel
}

func made(t *testing.T, envs, frames int) bench {
	t.Helper()
	k := New(api.Size{Cores: 1, Envs: envs, Frames: frames})
	if k == nil {
		t.Fatalf("New of %d, %d: nil", envs, frames)
	}
	return bench{t, k}
}

// sight is all that the kernel tells, asked of more environments, slots, pages
// and frames than there are.
func (b bench) sight() sight {
	b.t.Helper()
	s := sight{caps: map[place]api.Cap{}, ptes: map[place]api.Pte{}, free: b.k.Free()}
	for env := -1; env <= 4; env++ {
		for at := -1; at <= 8; at++ {
			c, ok := b.k.Cap(env, at)
			if ok {
				s.caps[place{env, at}] = c
			} else if c != (api.Cap{}) {
				b.t.Fatalf("Cap %d %d: %v, false", env, at, c)
			}
			p, ok := b.k.Pte(env, at)
			if ok {
				s.ptes[place{env, at}] = p
			} else if p != (api.Pte{}) {
				b.t.Fatalf("Pte %d %d: %v, false", env, at, p)
			}
		}
	}
	for frame := range 16 {
		s.words = append(s.words, b.k.Frame(frame))
	}
	return s
}

func (b bench) expect(what any, want sight) {
	b.t.Helper()
	if now := b.sight(); !now.is(want) {
		b.t.Fatalf("%v: %v, not %v", what, now, want)
	}
}

// expectErr holds what Err tells against what it should.
func (b bench) expectErr(env int, c api.Call, want api.Errno) {
	b.t.Helper()
	err := b.k.Err(env, c)
	if want == api.OK {
		if err != nil {
			b.t.Fatalf("Err %d %v: %v, not nil", env, c, err)
		}
		return
	}
	first, ok := trap.First(err)
	if !ok || *first != (trap.Trap{Code: want, Env: env, Call: c, Err: first.Err}) {
		b.t.Fatalf("Err %d %v: %v, not of %d", env, c, err, want)
	}
	inner, ok := trap.First(first.Err)
	if !ok || *inner != (trap.Trap{Code: want, Env: -1}) {
		b.t.Fatalf("Err %d %v: it wraps %v", env, c, first.Err)
	}
	if trap.Code(err) != want || !errors.Is(err, trap.Of(want)) || errors.Is(err, trap.Of(want+1)) {
		b.t.Fatalf("Err %d %v: %v is not of %d", env, c, err, want)
	}
}

// do does a call, and holds what Err and Do tell against what they should.
// Neither Err nor a call that fails or waits may change anything.
func (b bench) do(want outcome, env int, words ...uint64) {
	b.t.Helper()
	var c api.Call
	copy(c[:], words)
	before := b.sight()
	b.expectErr(env, c, want.a.Err)
	b.expect(fmt.Sprint("Err ", env, c), before)
	if o := got(b.k.Do(env, c)); o != want {
		b.t.Fatalf("Do %d %v: %v, not %v", env, c, o, want)
	}
	if want.a.Err != api.OK || !want.ok {
		b.expect(fmt.Sprint("refused ", env, c), before)
	}
}

// well does a call that ends well, with Val 0.
func (b bench) well(env int, words ...uint64) {
	b.t.Helper()
	b.do(tells(0), env, words...)
}

// copied is a copy, to try a call on.
func (b bench) copied() bench { return bench{b.t, b.k.Copy()} }

func (b bench) expectFrame(frame int, want [16]uint64) {
	b.t.Helper()
	if ws := b.k.Frame(frame); !slices.Equal(ws, want[:]) {
		b.t.Fatalf("Frame %d: %v, not %v", frame, ws, want)
	}
}

func (b bench) expectCap(env, slot int, want api.Cap) {
	b.t.Helper()
	if c, ok := b.k.Cap(env, slot); c != want || !ok {
		b.t.Fatalf("Cap %d %d: %v, %v, not %v", env, slot, c, ok, want)
	}
}

func (b bench) expectNoCap(env, slot int) {
	b.t.Helper()
	if c, ok := b.k.Cap(env, slot); c != (api.Cap{}) || ok {
		b.t.Fatalf("Cap %d %d: %v, %v", env, slot, c, ok)
	}
}

func (b bench) expectPte(env, page int, want api.Pte) {
	b.t.Helper()
	if p, ok := b.k.Pte(env, page); p != want || !ok {
		b.t.Fatalf("Pte %d %d: %v, %v, not %v", env, page, p, ok, want)
	}
}

func (b bench) expectNoPte(env, page int) {
	b.t.Helper()
	if p, ok := b.k.Pte(env, page); p != (api.Pte{}) || ok {
		b.t.Fatalf("Pte %d %d: %v, %v", env, page, p, ok)
	}
}

func (b bench) expectFree(want ...int) {
	b.t.Helper()
	if free := b.k.Free(); !slices.Equal(free, want) {
		b.t.Fatalf("Free: %v, not %v", free, want)
	}
}

// family has three environments and four frames, two of them free:
//
//	0 0 (frame 0, rights 3) - 0 1 (3) - 1 1 (3) - 1 2 (1)
//	                        | 2 5 (1)
//	                        ` 0 2 (2)
//	1 0 (frame 1, rights 3) - 0 7 (3)
//
// with one or two pages by each of them.
func family(t *testing.T) bench {
	t.Helper()
	b := made(t, 3, 4)
	b.well(0, api.CAlloc, 0)
	b.well(1, api.CAlloc, 0)
	b.well(0, api.CDerive, 0, 1, 3)
	b.well(0, api.CGrant, 1, 1, 1, 3)
	b.well(1, api.CDerive, 1, 2, 1)
	b.well(0, api.CGrant, 0, 2, 5, 1)
	b.well(0, api.CDerive, 0, 2, 2)
	b.well(1, api.CGrant, 0, 0, 7, 3)
	b.well(0, api.CMap, 0, 0, 3)
	b.well(0, api.CMap, 6, 0, 1)
	b.well(0, api.CMap, 1, 1, 3)
	b.well(0, api.CMap, 2, 2, 2)
	b.well(0, api.CMap, 7, 7, 3)
	b.well(1, api.CMap, 0, 0, 3)
	b.well(1, api.CMap, 1, 1, 2)
	b.well(1, api.CMap, 6, 1, 3)
	b.well(1, api.CMap, 2, 2, 1)
	b.well(2, api.CMap, 5, 5, 1)
	b.well(0, api.UStore, 0, 3, 33)
	b.well(1, api.UStore, 0, 15, 44)
	return b
}

func TestLimits(t *testing.T) {
	if api.MaxCores != 8 || api.MaxEnvs != 4 || api.MaxFrames != 16 || api.Slots != 8 || api.Pages != 8 || api.Words != 16 || api.MaxRefs != 7 {
		t.Error("the tests' numbers are not the limits")
	}
}

func TestNew(t *testing.T) {
	for cores := 1; cores <= 8; cores++ {
		for envs := 1; envs <= 4; envs++ {
			for frames := 1; frames <= 16; frames++ {
				k := New(api.Size{Cores: cores, Envs: envs, Frames: frames})
				if k == nil {
					t.Fatalf("New of %d, %d, %d: nil", cores, envs, frames)
				}
				b := bench{t, k}
				b.expect("New", modelOf(envs, frames).sight())
				b.well(envs-1, api.CYield)
				b.do(fails(api.ErrOff), envs, api.CYield)
			}
		}
	}
}

func TestNewOfNoRightSize(t *testing.T) {
	for _, n := range append(wrong(17), 0) {
		for _, s := range []api.Size{{Cores: n, Envs: 2, Frames: 2}, {Cores: 2, Envs: n, Frames: 2}, {Cores: 2, Envs: 2, Frames: n}} {
			if New(s) != nil {
				t.Errorf("New %v: not nil", s)
			}
		}
	}
	for _, s := range []api.Size{
		{}, {Cores: 0, Envs: 1, Frames: 1}, {Cores: 1, Envs: 0, Frames: 1}, {Cores: 1, Envs: 1, Frames: 0},
		{Cores: 9, Envs: 4, Frames: 16}, {Cores: 8, Envs: 5, Frames: 16}, {Cores: 8, Envs: 4, Frames: 17},
		{Cores: 16, Envs: 4, Frames: 16}, {Cores: 8, Envs: 8, Frames: 16},
	} {
		if New(s) != nil {
			t.Errorf("New %v: not nil", s)
		}
	}
}

func TestWhatThereIs(t *testing.T) {
	b := family(t)
	b.expectCap(0, 0, api.Cap{Frame: 0, Rights: 3, Env: -1})
	b.expectCap(1, 0, api.Cap{Frame: 1, Rights: 3, Env: -1})
	b.expectCap(0, 1, api.Cap{Frame: 0, Rights: 3, Env: 0, Slot: 0})
	b.expectCap(1, 1, api.Cap{Frame: 0, Rights: 3, Env: 0, Slot: 1})
	b.expectCap(1, 2, api.Cap{Frame: 0, Rights: 1, Env: 1, Slot: 1})
	b.expectCap(2, 5, api.Cap{Frame: 0, Rights: 1, Env: 0, Slot: 0})
	b.expectCap(0, 2, api.Cap{Frame: 0, Rights: 2, Env: 0, Slot: 0})
	b.expectCap(0, 7, api.Cap{Frame: 1, Rights: 3, Env: 1, Slot: 0})
	b.expectNoCap(0, 3)
	b.expectNoCap(2, 0)
	b.expectPte(0, 0, api.Pte{Frame: 0, Slot: 0, Rights: 3})
	b.expectPte(0, 6, api.Pte{Frame: 0, Slot: 0, Rights: 1})
	b.expectPte(0, 7, api.Pte{Frame: 1, Slot: 7, Rights: 3})
	b.expectPte(1, 6, api.Pte{Frame: 0, Slot: 1, Rights: 3})
	b.expectPte(2, 5, api.Pte{Frame: 0, Slot: 5, Rights: 1})
	b.expectNoPte(0, 3)
	b.expectNoPte(2, 0)
	b.expectFrame(0, [16]uint64{3: 33})
	b.expectFrame(1, [16]uint64{15: 44})
	b.expectFrame(2, [16]uint64{})
	b.expectFree(2, 3)
}

func TestWhatThereIsNot(t *testing.T) {
	b := family(t)
	for _, n := range wrong(8) {
		b.expectNoCap(0, n)
		b.expectNoPte(0, n)
		b.expectNoCap(n, 0)
		b.expectNoPte(n, 0)
		b.expectNoCap(n, n)
		b.expectNoPte(n, n)
	}
	b.expectNoCap(3, 0)
	b.expectNoPte(3, 0)
	for _, n := range wrong(4) {
		if ws := b.k.Frame(n); ws != nil {
			t.Errorf("Frame %d: %v", n, ws)
		}
	}
}

func TestTouch(t *testing.T) {
	b := family(t)
	for frame := range 4 {
		for at := range uint64(16) {
			was := b.k.Frame(frame)[at]
			want := b.sight()
			for _, x := range []struct {
				c         api.Call
				val, then uint64
			}{
				{api.Call{api.UStore, 99, at, math.MaxUint64}, 0, math.MaxUint64},
				{api.Call{api.ULoad, 0, at}, math.MaxUint64, math.MaxUint64},
				{api.Call{api.UAdd, math.MaxUint64, at, 8}, math.MaxUint64, 7},
				{api.Call{api.UCas, 3, at, 7, 5}, 7, 5},
				{api.Call{api.UCas, 3, at, 7, 6}, 5, 5},
				{api.Call{api.ULoad, 7, at, 1, 1}, 5, 5},
				{api.Call{api.UStore, 8, at, was, 9}, 0, was},
			} {
				if o := got(b.k.Touch(frame, x.c)); o != tells(x.val) {
					t.Fatalf("Touch %d %v: %v, not %d", frame, x.c, o, x.val)
				}
				want.words[frame][at] = x.then
				b.expect(x.c, want)
			}
		}
	}
}

func (b bench) touchesNothing(frame int, c api.Call) {
	b.t.Helper()
	before := b.sight()
	if o := got(b.k.Touch(frame, c)); o != (outcome{}) {
		b.t.Fatalf("Touch %d %v: %v", frame, c, o)
	}
	b.expect(c, before)
}

func TestTouchOfWhatIsNone(t *testing.T) {
	b := family(t)
	for _, kind := range []uint64{api.ULoad, api.UStore, api.UCas, api.UAdd} {
		for _, n := range wrong(4) {
			b.touchesNothing(n, api.Call{kind, 0, 3, 33, 1})
		}
		for _, n := range wrong(16) {
			b.touchesNothing(0, api.Call{kind, 0, uint64(n), 0, 1})
		}
	}
	for kind := range uint64(api.ULoad) {
		b.touchesNothing(0, api.Call{kind, 0, 3, 33, 1})
	}
	for _, n := range wrong(api.UAdd + 1) {
		b.touchesNothing(0, api.Call{uint64(n), 0, 3, 33, 1})
	}
	b.touchesNothing(0, api.Call{1<<32 + api.UStore, 0, 3, 7})
}

func TestErr(t *testing.T) {
	b := family(t)
	c := api.Call{api.CDrop, 3, 7, 7, math.MaxUint64}
	err := b.k.Err(1, c)
	first, ok := trap.First(err)
	if !ok || first.Env != 1 || first.Call != c || first.Code != api.ErrNone {
		t.Errorf("Err %v: %v", c, err)
	}
	if trap.Depth(err) != 2 || trap.Code(err) != api.ErrNone || !errors.Is(err, trap.Of(api.ErrNone)) || errors.Is(err, trap.Of(api.ErrArg)) {
		t.Errorf("Err %v: %v", c, err)
	}
	for _, c := range []api.Call{{api.CAlloc, 3}, {api.CDrop, 0}, {api.CYield}, {api.UStore, 0, 0, 9}, {api.CSleep, 0, 3, api.PEqual, 9}} {
		before := b.sight()
		if err := b.k.Err(0, c); err != nil {
			t.Errorf("Err %v: %v", c, err)
		}
		b.expect(c, before)
	}
	for _, env := range wrong(3) {
		b.expectErr(env, c, api.ErrOff)
	}
}

// What Err does nothing of, Do does afterwards, and Err tells what is so then.
func TestErrAheadAndBehind(t *testing.T) {
	b := made(t, 1, 1)
	c := api.Call{api.CAlloc, 3}
	for range 3 {
		b.expectErr(0, c, api.OK)
	}
	b.expectFree(0)
	b.well(0, c[:]...)
	b.expectErr(0, c, api.ErrBusy)
	b.expectErr(0, api.Call{api.CAlloc, 2}, api.ErrFull)
	b.expectErr(0, api.Call{api.CDrop, 3}, api.OK)
	b.expectErr(0, c, api.ErrBusy)
	b.do(tells(1), 0, api.CDrop, 3)
	b.expectErr(0, c, api.OK)
}

func TestNil(t *testing.T) {
	var none *Kernel
	for _, kind := range append(kinds, 0, 99, math.MaxUint64) {
		for _, env := range append(wrong(4), 0, 1) {
			c := api.Call{kind, 1, 1, 1, 1}
			if o := got(none.Do(env, c)); o != fails(api.ErrOff) {
				t.Errorf("nil: Do %d %v: %v", env, c, o)
			}
			err := none.Err(env, c)
			if first, ok := trap.First(err); !ok || *first != (trap.Trap{Code: api.ErrOff, Env: -1}) {
				t.Errorf("nil: Err %d %v: %v", env, c, err)
			}
			if o := got(none.Touch(env, c)); o != (outcome{}) {
				t.Errorf("nil: Touch %d %v: %v", env, c, o)
			}
		}
	}
	b := bench{t, none}
	for _, n := range append(wrong(8), 0, 1) {
		b.expectNoCap(n, 0)
		b.expectNoCap(0, n)
		b.expectNoPte(n, 0)
		b.expectNoPte(0, n)
		if none.Frame(n) != nil {
			t.Errorf("nil: Frame %d", n)
		}
	}
	if none.Free() != nil || none.Copy() != nil {
		t.Error("nil: Free, Copy")
	}
}

func TestKernelThatNewHasNotMade(t *testing.T) {
	b := bench{t, &Kernel{}}
	b.expect("sight", sight{words: make([][]uint64, 16)})
	for _, kind := range append(kinds, 0) {
		b.do(fails(api.ErrOff), 0, kind, 1, 1, 1, 1)
		b.touchesNothing(0, api.Call{kind, 1, 1, 1, 1})
	}
	b.copied().do(fails(api.ErrOff), 0, api.CYield)
}
