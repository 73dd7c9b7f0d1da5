package kern

import (
	"math"
	"slices"
	"testing"

	"messuage/api"
	"messuage/plain"
)

// wrong are numbers that nothing has of which there are so many, those with
// them that become a right one when they lose their upper bits.
func wrong(most int) []int {
	return []int{math.MinInt, math.MinInt + 1, -1 << 32, -1<<32 + 1, -256, -8, -2, -1, most, most + 1, 2 * most, 64, 255, 256, 257, 1 << 16, 1 << 32, 1<<32 + 1, 1 << 62, math.MaxInt - 1, math.MaxInt}
}

func sizes() []int { return append(wrong(17), 0, 1, 2, 3, 4, 5, 7, 8, 9, 10, 15, 16) }

func TestNewAsPlain(t *testing.T) {
	n := 0
	for _, cores := range sizes() {
		for _, envs := range sizes() {
			for _, frames := range sizes() {
				s := api.Size{Cores: cores, Envs: envs, Frames: frames}
				may := cores >= 1 && cores <= 8 && envs >= 1 && envs <= 4 && frames >= 1 && frames <= 16
				if k := New(s); (k != nil) != may || may != (plain.New(s) != nil) {
					t.Errorf("New %v: %v", s, k)
				}
				if may {
					n++
				}
			}
		}
	}
	if n == 0 {
		t.Error("New: none may be")
	}
}

// Of each size there are the cores, environments and frames from 0 on, and no
// others.
func TestNewHasSoMany(t *testing.T) {
	for _, s := range []api.Size{{Cores: 1, Envs: 1, Frames: 1}, {Cores: 8, Envs: 4, Frames: 16}, {Cores: 3, Envs: 2, Frames: 5}} {
		b := made(t, s.Cores, s.Envs, s.Frames)
		for core := range 9 {
			for env := range 5 {
				if b.begin(core, env, call(api.CYield)) {
					b.settle()
				}
			}
		}
		for slot := range uint64(s.Frames) {
			if a := b.does(0, 0, api.CAlloc, slot%8); slot < 8 && a.Err != api.OK {
				t.Errorf("%v: frame %d: %v", s, slot, a)
			}
		}
		if b.k.Frame(s.Frames-1) == nil || b.k.Frame(s.Frames) != nil {
			t.Errorf("%v: Frame", s)
		}
	}
}

// Nothing is there yet.
func TestNewIsEmpty(t *testing.T) {
	b := made(t, 8, 4, 16)
	if !slices.Equal(b.k.Free(), []int{0, 1, 2, 3, 4, 5, 6, 7, 8, 9, 10, 11, 12, 13, 14, 15}) || b.k.Now() != 0 || len(b.k.Events()) != 0 {
		t.Errorf("New: %v, %d, %v", b.k.Free(), b.k.Now(), b.k.Events())
	}
	for core := range 8 {
		if !slices.Equal(b.k.Lines(core), slices.Repeat([]api.Line{gone}, 8)) || b.k.Busy(core) || b.k.Mail(core) != 0 {
			t.Errorf("New: core %d: %v", core, b.k.Lines(core))
		}
	}
}

func TestBegin(t *testing.T) {
	b := made(t, 2, 2, 1)
	if !b.begin(1, 0, call(api.CAlloc, 3)) || !b.k.Busy(1) || b.k.Busy(0) {
		t.Error("Begin: false")
	}
	want := api.Event{Core: 1, Env: 0, Call: call(api.CAlloc, 3), Begin: 1}
	if es := b.k.Events(); len(es) != 1 || es[0] != want {
		t.Errorf("Begin: %v", es)
	}
}

// A busy core begins nothing, whatever its call and however far that is.
func TestBeginOnABusyCore(t *testing.T) {
	b := shared(t)
	for _, c := range [][]uint64{{api.CYield}, {api.CUnmap, 1}, {api.ULoad, 1, 3}, {99}} {
		b.begin(0, 0, call(c...))
		for b.busy(0) {
			if b.begin(0, 0, call(api.CYield)) || b.begin(0, 1, call(c...)) {
				t.Errorf("Begin on a core that does %v: true", c)
			}
			b.post(1)
			b.step(0)
		}
	}
	b.begin(1, 0, call(api.CSleep, 0, 3, api.PEqual, 99))
	for range 5 {
		b.step(1)
		if b.begin(1, 0, call(api.CYield)) {
			t.Error("Begin on a core that sleeps: true")
		}
	}
}

func TestBeginOfWhatIsNone(t *testing.T) {
	for _, s := range []api.Size{{Cores: 1, Envs: 1, Frames: 1}, {Cores: 3, Envs: 2, Frames: 1}, {Cores: 8, Envs: 4, Frames: 1}} {
		b := made(t, s.Cores, s.Envs, s.Frames)
		for _, core := range append(wrong(s.Cores), 0) {
			for _, env := range wrong(s.Envs) {
				if b.begin(core, env, call(api.CYield)) {
					t.Errorf("%v: Begin %d, %d: true", s, core, env)
				}
			}
		}
		for _, core := range wrong(s.Cores) {
			if b.begin(core, 0, call(api.CYield)) {
				t.Errorf("%v: Begin %d: true", s, core)
			}
		}
	}
}

func TestStepOfNoCall(t *testing.T) {
	b := shared(t)
	for _, core := range append(wrong(3), 0, 1, 2) {
		if b.step(core) {
			t.Errorf("Step %d: true", core)
		}
	}
	b.begin(1, 0, call(api.CYield))
	b.settle()
	if b.step(1) || b.step(0) {
		t.Error("Step of a core whose call ended: true")
	}
}

func TestPostOfNoMail(t *testing.T) {
	b := shared(t)
	for _, core := range append(wrong(3), 0, 1, 2) {
		if b.post(core) {
			t.Errorf("Post %d: true", core)
		}
	}
	b.begin(1, 0, call(api.ULoad, 1, 3))
	if b.post(1) {
		t.Error("Post of a busy core without mail: true")
	}
}

// three are a bench of which core 0 has the pages 0 to 2 in its buffer, and
// cores 3, 2 and 1 have sent their interrupts of CUnmaps of these, in that order.
func three(t *testing.T) *bench {
	b := made(t, 4, 1, 3)
	for page := range uint64(3) {
		b.well(0, 0, []uint64{api.CAlloc, page}, []uint64{api.CMap, page, page, 3}, []uint64{api.UStore, page, 0, page})
	}
	for i, core := range []int{3, 2, 1} {
		b.begin(core, 0, call(api.CUnmap, uint64(i)))
		b.step(core)
		if b.k.Mail(0) != i+1 {
			t.Errorf("Mail: %d, not %d", b.k.Mail(0), i+1)
		}
	}
	return b
}

// Each Post is of the least interrupt: the call that sent it can end, and no
// other one.
func TestPostOfTheLeast(t *testing.T) {
	for _, busy := range []bool{false, true} {
		b := three(t)
		if busy {
			b.begin(0, 0, call(api.ULoad, 2, 0))
		}
		for i, core := range []int{3, 2, 1} {
			if !b.post(0) || b.k.Mail(0) != 2-i || b.busy(0) != busy {
				t.Errorf("Post %d: Mail %d", i, b.k.Mail(0))
			}
			for range 3 {
				b.step(1)
				b.step(2)
				b.step(3)
			}
			for other := 1; other < 4; other++ {
				if b.busy(other) != (other < core) {
					t.Errorf("Post %d: core %d: busy %v", i, other, b.busy(other))
				}
			}
		}
		if b.post(0) {
			t.Error("Post of all: true")
		}
	}
}

// What is posted while its core does a load, a store is heard by that.
func TestPostAmidstALoad(t *testing.T) {
	b := three(t)
	b.begin(0, 0, call(api.ULoad, 1, 0))
	for b.post(0) {
	}
	b.step(0)
	if e := b.last(0); e.Answer != (api.Answer{Err: api.ErrFault}) || e.Line != (api.Line{}) {
		t.Errorf("%v", e)
	}
}

// Without it the load goes by what the buffer has.
func TestALoadAheadOfItsPost(t *testing.T) {
	b := three(t)
	b.begin(0, 0, call(api.ULoad, 1, 0))
	b.step(0)
	if e := b.last(0); e.Answer != (api.Answer{Val: 1}) || e.Line != (api.Line{Page: 1, Frame: 1, Rights: 3}) {
		t.Errorf("%v", e)
	}
	b.settle()
}

// Cores that take pages hear of each other's interrupts amidst that.
func TestPostAmidstATaker(t *testing.T) {
	b := made(t, 2, 1, 2)
	for page := range uint64(2) {
		b.well(0, 0, []uint64{api.CAlloc, page}, []uint64{api.CMap, page, page, 3})
		b.well(0, 0, []uint64{api.ULoad, page, 0})
		b.well(1, 0, []uint64{api.ULoad, page, 0})
	}
	b.begin(0, 0, call(api.CUnmap, 0))
	b.begin(1, 0, call(api.CUnmap, 1))
	for range 5 {
		b.step(0)
		b.step(1)
	}
	if !b.busy(0) || !b.busy(1) || !b.post(0) || !b.post(1) || !b.step(0) || !b.step(1) || b.busy(0) || b.busy(1) {
		t.Errorf("%v", b.events)
	}
}

func TestEvict(t *testing.T) {
	for set := range 4 {
		for way := range 2 {
			b := made(t, 2, 1, 8)
			for page := range uint64(8) {
				b.well(0, 0, []uint64{api.CAlloc, page}, []uint64{api.CMap, page, page, 3}, []uint64{api.ULoad, page, 0})
				b.well(1, 0, []uint64{api.ULoad, page, 0})
			}
			if !b.evict(1, set, way) || b.evict(1, set, way) || !b.evict(0, set, way) {
				t.Errorf("Evict %d, %d", set, way)
			}
		}
	}
}

func TestEvictOfWhatIsNone(t *testing.T) {
	b := shared(t)
	for _, core := range append(wrong(3), 0, 1, 2) {
		for _, set := range append(wrong(4), 0, 1, 2, 3) {
			for _, way := range wrong(2) {
				b.evict(core, set, way)
			}
		}
		for _, set := range wrong(4) {
			b.evict(core, set, 0)
			b.evict(core, set, 1)
		}
	}
	for _, core := range wrong(3) {
		b.evict(core, 1, 0)
	}
	for set := range 4 {
		if b.evict(0, set, 0) || b.evict(0, set, 1) {
			t.Error("Evict of an empty place: true")
		}
	}
}

// A load that is under way finds what Evict left.
func TestEvictAmidstALoad(t *testing.T) {
	b := made(t, 2, 1, 1)
	b.well(0, 0, []uint64{api.CAlloc, 0}, []uint64{api.CMap, 1, 0, 3}, []uint64{api.UStore, 1, 3, 7})
	b.begin(0, 0, call(api.ULoad, 1, 3))
	if !b.evict(0, 1, 0) || !b.step(0) {
		t.Error("Evict: false")
	}
	b.settle()
	if e := b.last(0); e.Answer != (api.Answer{Val: 7}) || b.k.Lines(0)[2] != (api.Line{Page: 1, Rights: 3}) {
		t.Errorf("%v, %v", e, b.k.Lines(0))
	}
	// With the entry on its way out there is none to be found again.
	b.begin(1, 0, call(api.CUnmap, 1))
	b.step(1)
	b.begin(0, 0, call(api.ULoad, 1, 3))
	b.evict(0, 1, 0)
	b.step(0)
	if e := b.last(0); e.Answer != (api.Answer{Err: api.ErrFault}) {
		t.Errorf("%v", e)
	}
	b.settle()
}

// Now counts what tells true: the bench does, too, and holds the two against
// each other behind each step and each that is none.
func TestNow(t *testing.T) {
	b := three(t)
	now := b.k.Now()
	for _, step := range []move{begins(0, 0, api.CYield), steps(0), evicts(0, 2, 0), posts(0), steps(3)} {
		step(b)
		now++
		if b.k.Now() != now {
			t.Fatalf("Now: %d, not %d", b.k.Now(), now)
		}
	}
	for _, none := range []move{begins(1, 0, api.CYield), steps(0), posts(1), evicts(0, 3, 0), steps(4), posts(-1)} {
		none(b)
		if b.k.Now() != now {
			t.Fatalf("Now: %d, not %d", b.k.Now(), now)
		}
	}
	b.k.Mail(0)
	b.k.Busy(0)
	b.k.Lines(0)
	b.k.Events()
	b.expect("asked")
}

func TestWhatNoCoreTells(t *testing.T) {
	b := three(t)
	for _, core := range wrong(4) {
		if b.k.Mail(core) != 0 || b.k.Busy(core) || b.k.Lines(core) != nil {
			t.Errorf("core %d: %d, %v, %v", core, b.k.Mail(core), b.k.Busy(core), b.k.Lines(core))
		}
	}
}

func TestWhatIsNone(t *testing.T) {
	b := shared(t)
	for _, n := range wrong(8) {
		for i := range 8 {
			_, a := b.k.Cap(n, i)
			_, c := b.k.Cap(i%2, n)
			_, d := b.k.Pte(n, i)
			_, e := b.k.Pte(i%2, n)
			if a || c || d || e {
				t.Errorf("%d, %d is there", n, i)
			}
		}
	}
	for _, n := range append(wrong(3), wrong(16)...) {
		if b.k.Frame(n) != nil {
			t.Errorf("Frame %d: %v", n, b.k.Frame(n))
		}
	}
	for slot := range 8 {
		c, ok := b.k.Cap(0, slot)
		if slot > 0 && (ok || c != (api.Cap{})) {
			t.Errorf("Cap of an empty slot: %v", c)
		}
		p, ok := b.k.Pte(1, slot)
		if slot != 5 && (ok || p != (api.Pte{})) {
			t.Errorf("Pte of an empty page: %v", p)
		}
	}
}

// Of calls on several cores, those that began first come first, whichever ended
// first, and those under way are among them.
func TestEvents(t *testing.T) {
	b := made(t, 3, 2, 2)
	b.begin(2, 1, call(api.CAlloc, 4))
	b.begin(0, 0, call(api.CAlloc, 9))
	b.begin(1, 1, call(api.CYield))
	b.step(1)
	b.step(0)
	b.begin(0, 0, call(api.CAlloc, 1))
	want := []api.Event{
		{Core: 2, Env: 1, Call: call(api.CAlloc, 4), Begin: 1},
		{Core: 0, Env: 0, Call: call(api.CAlloc, 9), Begin: 2, Effect: 5, End: 5, Answer: api.Answer{Err: api.ErrArg}},
		{Core: 1, Env: 1, Call: call(api.CYield), Begin: 3, Effect: 4, End: 4},
		{Core: 0, Env: 0, Call: call(api.CAlloc, 1), Begin: 6},
	}
	if got := b.k.Events(); !slices.Equal(got, want) {
		t.Errorf("Events: %v, not %v", got, want)
	}
	b.settle()
}

// A load or a store tells its line, each of those that fail a zero one.
func TestLineOfEvents(t *testing.T) {
	b := shared(t)
	line := api.Line{Env: 1, Page: 5, Frame: 0, Rights: 3}
	for _, x := range []struct {
		c    api.Call
		a    api.Answer
		line api.Line
	}{
		{call(api.ULoad, 5, 3), api.Answer{Val: 8}, line},
		{call(api.UStore, 5, 3, 2), api.Answer{}, line},
		{call(api.UCas, 5, 3, 2, 4), api.Answer{Val: 2}, line},
		{call(api.UAdd, 5, 3, 2), api.Answer{Val: 4}, line},
		{call(api.ULoad, 4, 3), api.Answer{Err: api.ErrFault}, api.Line{}},
		{call(api.ULoad, 8, 3), api.Answer{Err: api.ErrArg}, api.Line{}},
		{call(api.ULoad, 5, 16), api.Answer{Err: api.ErrArg}, api.Line{}},
		{call(24, 5, 3), api.Answer{Err: api.ErrCall}, api.Line{}},
		{call(api.CMap, 6, 2, 1), api.Answer{}, api.Line{}},
		{call(api.CMap, 6, 2, 1), api.Answer{Err: api.ErrBusy}, api.Line{}},
		{call(api.CUnmap, 6), api.Answer{}, api.Line{}},
	} {
		b.does(2, 1, x.c[:]...)
		if e := b.last(2); e.Answer != x.a || e.Line != x.line {
			t.Errorf("%v: %v", x.c, e)
		}
	}
}

// What was answered may be written into, and appended to.
func TestListsAreNew(t *testing.T) {
	b := three(t)
	overwrite(b, "Events", b.k.Events)
	overwrite(b, "Lines", func() []api.Line { return b.k.Lines(0) })
	overwrite(b, "Frame", func() []uint64 { return b.k.Frame(1) })
	overwrite(b, "Free", b.k.Free)
	b.settle()
	overwrite(b, "Free", b.k.Free)
}

// overwrite writes into one answer, all over its spare room too, and holds
// another one that was given ahead of that, and what the kernel keeps, against
// what they were.
func overwrite[T comparable](b *bench, what string, ask func() []T) {
	kept, other := ask(), ask()
	was := slices.Clone(kept)
	clear(other[:cap(other)])
	other = append(other, *new(T))
	clear(other[:cap(other)])
	if !slices.Equal(kept, was) || !slices.Equal(ask(), was) {
		b.t.Errorf("%s: another answer changed", what)
	}
	b.expect(what)
}

// What is appended to Events does not come among the next ones.
func TestAppendedEvents(t *testing.T) {
	b := made(t, 1, 1, 1)
	for range 20 {
		es := b.k.Events()
		_ = append(es, api.Event{Core: 99})
		b.does(0, 0, api.CYield)
		_ = append(es, api.Event{Core: 99})
		b.expect("appended to")
	}
}

func TestTwoKernels(t *testing.T) {
	a, b := shared(t), made(t, 3, 2, 3)
	b.expect("the other one")
	c := shared(t)
	c.well(0, 0, []uint64{api.CDrop, 0})
	a.expect("the one")
	a.begin(0, 0, call(api.CUnmap, 1))
	a.step(0)
	c.expect("the third one")
	b.well(1, 1, []uint64{api.CAlloc, 0})
	a.settle()
	for _, x := range []*bench{a, b, c} {
		x.expect("all")
	}
}

func TestNil(t *testing.T) {
	for _, k := range []*Kern{nil, {}} {
		for _, n := range append(wrong(1), 0, 1) {
			_, isCap := k.Cap(n, n)
			_, isPte := k.Pte(n, n)
			if k.Begin(n, n, call(api.CYield)) || k.Step(n) || k.Post(n) || k.Evict(n, n, n) || k.Busy(n) || k.Mail(n) != 0 || k.Lines(n) != nil || isCap || isPte || k.Frame(n) != nil {
				t.Errorf("nil: %d", n)
			}
		}
		if k.Events() != nil || k.Free() != nil || k.Now() != 0 {
			t.Errorf("nil: %v, %v, %d", k.Events(), k.Free(), k.Now())
		}
	}
}
