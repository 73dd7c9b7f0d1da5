package kern

import (
	"testing"

	"messuage/api"
)

// both does two calls at once, on the cores 1 and 2, in either order, and hands
// on which took effect first.
func both(t *testing.T, set func(t *testing.T) *bench, env, other int, c, d []uint64, then func(b *bench, first, second api.Event)) {
	t.Helper()
	for _, order := range [][]int{{1, 2}, {2, 1}} {
		b := set(t)
		b.begin(1, env, call(c...))
		b.begin(2, other, call(d...))
		for range 10 {
			for _, core := range order {
				b.step(core)
				b.post(3 - core)
			}
		}
		b.settle()
		first, second := b.last(order[0]), b.last(order[1])
		if first.Effect > second.Effect {
			first, second = second, first
		}
		then(b, first, second)
	}
}

// oneFails is that of two calls the first one ended well, the other one did not.
func oneFails(t *testing.T, err api.Errno) func(b *bench, first, second api.Event) {
	return func(b *bench, first, second api.Event) {
		t.Helper()
		if first.Answer != (api.Answer{}) || second.Answer != (api.Answer{Err: err}) {
			t.Errorf("%v, %v", first, second)
		}
	}
}

func TestTwoFillOneSlot(t *testing.T) {
	set := func(t *testing.T) *bench { return made(t, 3, 2, 3) }
	both(t, set, 0, 0, []uint64{api.CAlloc, 5}, []uint64{api.CAlloc, 5}, oneFails(t, api.ErrBusy))
	both(t, shared, 0, 1, []uint64{api.CGrant, 0, 1, 5, 1}, []uint64{api.CAlloc, 5}, oneFails(t, api.ErrBusy))
	both(t, shared, 0, 0, []uint64{api.CDerive, 0, 5, 1}, []uint64{api.CGrant, 0, 0, 5, 2}, oneFails(t, api.ErrBusy))
	both(t, shared, 0, 1, []uint64{api.CGrant, 0, 1, 5, 1}, []uint64{api.CDerive, 2, 5, 2}, oneFails(t, api.ErrBusy))
}

func TestTwoTakeTheLastFrame(t *testing.T) {
	set := func(t *testing.T) *bench { return made(t, 3, 2, 1) }
	both(t, set, 0, 1, []uint64{api.CAlloc, 5}, []uint64{api.CAlloc, 6}, func(b *bench, first, second api.Event) {
		oneFails(t, api.ErrFull)(b, first, second)
		if c, ok := b.k.Cap(first.Env, int(first.Call[1])); !ok || c.Frame != 0 || len(b.k.Free()) != 0 {
			t.Errorf("%v, %v", c, b.k.Free())
		}
	})
}

func TestTwoMapOnePage(t *testing.T) {
	both(t, shared, 0, 0, []uint64{api.CMap, 6, 0, 1}, []uint64{api.CMap, 6, 0, 3}, oneFails(t, api.ErrBusy))
}

func TestTwoUnmapOnePage(t *testing.T) {
	both(t, shared, 0, 0, []uint64{api.CUnmap, 1}, []uint64{api.CUnmap, 1}, oneFails(t, api.ErrNone))
}

// Two environments hand each other what they have at once: neither is in the
// other's way.
func TestTwoGrantEachOther(t *testing.T) {
	both(t, shared, 0, 1, []uint64{api.CGrant, 0, 1, 5, 1}, []uint64{api.CGrant, 2, 0, 5, 2}, func(b *bench, first, second api.Event) {
		oneFails(t, api.OK)(b, first, second)
		here, _ := b.k.Cap(0, 5)
		there, _ := b.k.Cap(1, 5)
		if here != (api.Cap{Frame: 0, Rights: 2, Env: 1, Slot: 2}) || there != (api.Cap{Frame: 0, Rights: 1, Env: 0, Slot: 0}) {
			t.Errorf("%v, %v", here, there)
		}
	})
}

// losers are calls of environment 0 that take what environment 1 has of it in
// what shared makes, with how many capabilities go.
func losers() map[uint64][]uint64 {
	return map[uint64][]uint64{1: {api.CRevoke, 0}, 2: {api.CDrop, 0}}
}

// begun is shared, amidst that call of environment 0 on core 0.
func begun(t *testing.T, c []uint64) *bench {
	b := shared(t)
	b.begin(0, 0, call(c...))
	for range 5 {
		b.step(0)
	}
	if !b.busy(0) {
		t.Fatalf("%v does not wait", c)
	}
	return b
}

// What is derived, granted and mapped from what another one is about to take,
// is taken with it.
func TestDeriveFromWhatGoes(t *testing.T) {
	for n, c := range losers() {
		b := begun(t, c)
		b.alone(2, 1, api.OK, api.CDerive, 2, 3, 3)
		b.alone(2, 1, api.OK, api.CGrant, 3, 0, 7, 1)
		b.alone(2, 1, api.OK, api.CMap, 6, 3, 3)
		for core := 1; core < 3; core++ {
			b.begin(core, 1, call(api.ULoad, 6, 3))
			b.step(core)
		}
		b.settle()
		if a := b.last(0).Answer; a != (api.Answer{Val: n + 2}) {
			t.Errorf("%v: %v", c, a)
		}
		_, first := b.k.Cap(1, 3)
		_, second := b.k.Cap(0, 7)
		_, page := b.k.Pte(1, 6)
		if first || second || page || b.does(2, 1, api.CDerive, 2, 3, 3).Err != api.ErrNone {
			t.Errorf("%v: something is left", c)
		}
	}
}

// What is amidst its own way out can be taken by another one first.
func TestTakenByAnotherFirst(t *testing.T) {
	for _, c := range losers() {
		b := shared(t)
		b.well(0, 1, []uint64{api.CDerive, 2, 3, 3}, []uint64{api.CMap, 6, 3, 3})
		b.well(1, 1, []uint64{api.ULoad, 6, 3})
		b.begin(2, 1, call(api.CDrop, 3))
		b.step(2)
		b.begin(0, 0, call(c...))
		b.step(0)
		for b.post(1) {
		}
		b.post(2)
		b.step(0)
		b.step(2)
		if first, second := b.last(0).Answer, b.last(2).Answer; first.Err != api.OK || second != (api.Answer{Err: api.ErrNone}) {
			t.Errorf("%v: %v, %v", c, first, second)
		}
	}
}

// A slot whose capability goes amidst its own CDrop, and into which another one
// came, loses that one: its page is on its way out from the first on.
func TestDropOfAnotherCapability(t *testing.T) {
	b := shared(t)
	b.begin(0, 1, call(api.CDrop, 2))
	b.step(0)
	b.begin(2, 0, call(api.CDrop, 0))
	b.step(2)
	b.post(1)
	b.post(1)
	b.step(2)
	if !b.busy(0) || b.busy(2) || b.last(2).Answer.Val != 2 {
		t.Fatalf("%v", b.events)
	}
	b.alone(1, 1, api.OK, api.CAlloc, 2)
	b.alone(1, 1, api.OK, api.CMap, 5, 2, 3)
	b.alone(1, 1, api.ErrFault, api.ULoad, 5, 0)
	b.settle()
	if _, ok := b.k.Pte(1, 5); ok || b.last(0).Answer != (api.Answer{Val: 1}) {
		t.Errorf("%v", b.events)
	}
}

// A page that is on its way out has its entry yet, for who would map it.
func TestMapOfWhatGoes(t *testing.T) {
	for name, c := range map[string][]uint64{"CUnmap": {api.CUnmap, 1}, "CDrop": {api.CDrop, 0}} {
		b := begun(t, c)
		b.alone(2, 0, api.ErrBusy, api.CMap, 1, 0, 1)
		b.settle()
		if b.busy(0) {
			t.Errorf("%s: it has not ended", name)
		}
		b.alone(2, 0, api.OK, api.CAlloc, 6)
		b.alone(2, 0, api.OK, api.CMap, 1, 6, 1)
	}
}

// Two calls of all that there are, by one environment and by two, however
// their steps lie.
func TestEveryTwoCalls(t *testing.T) {
	t.Parallel()
	calls := [][]uint64{
		{api.CAlloc, 2}, {api.CDerive, 0, 2, 3}, {api.CDerive, 2, 0, 1}, {api.CGrant, 0, 1, 2, 1}, {api.CGrant, 2, 0, 0, 3}, {api.CRevoke, 0}, {api.CRevoke, 2}, {api.CDrop, 0}, {api.CDrop, 2},
		{api.CMap, 1, 0, 2}, {api.CMap, 5, 0, 3}, {api.CMap, 5, 2, 1}, {api.CUnmap, 1}, {api.CUnmap, 5}, {api.CProtect, 1, 1}, {api.CProtect, 5, 2}, {api.CSleep, 0, 3, api.PEqual, 9}, {api.CSleep, 2, 3, api.PMore, 0},
		{api.CYield}, {api.ULoad, 1, 3}, {api.UStore, 1, 3, 9}, {api.UCas, 5, 3, 8, 9}, {api.UAdd, 5, 3, 1}, {77},
	}
	for _, c := range calls {
		for _, d := range calls {
			for env := range 2 {
				everyRow(t, 2, func() *bench {
					b := shared(t)
					b.begin(1, 0, call(c...))
					b.begin(2, env, call(d...))
					return b
				}, steps(1), steps(2), posts(1), posts(2))
			}
		}
	}
}

// A call whose words are wrong has an effect, too: its error.
func TestWrongWords(t *testing.T) {
	for kind := range uint64(30) {
		b := shared(t)
		for i := 1; i < 5; i++ {
			for _, w := range wrong(16) {
				c := call(kind, 1, 3, 1, 1)
				c[i] = uint64(w)
				b.begin(1+i%2, i%2, c)
				b.settle()
			}
		}
	}
}

func TestWrongKinds(t *testing.T) {
	b := shared(t)
	for _, w := range append(wrong(30), 0, 11, 19, 24) {
		for core := range 3 {
			b.alone(core, core%2, api.ErrCall, uint64(w), 1, 1, 1, 1)
		}
	}
}
