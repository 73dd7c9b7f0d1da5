package pool

import (
	"math"
	"slices"
	"testing"

	"messuage/api"
)

const (
	most = 16 // frames
	full = 7  // references of a frame
)

// below are numbers that no frame has, however many there are.
func below() []int {
	return []int{math.MinInt, math.MinInt + 1, math.MinInt + 16, -1 << 32, -1<<32 + 1, -256, -255, -64, -63, -17, -16, -15, -2, -1}
}

// beyond are the first one that is not below frames, and some from there on,
// those with them that become a right one when they lose their upper bits.
func beyond(frames int) []int {
	return []int{frames, frames + 1, 16, 17, frames + 16, 63, 64, 65, 256, 257, 1 << 16, 1 << 31, 1 << 32, 1<<32 + 1, 1 << 60, 1<<60 + 1, 1 << 62, math.MaxInt - 15, math.MaxInt - 1, math.MaxInt}
}

func wrong(frames int) []int { return append(below(), beyond(frames)...) }

// state is how many references each frame should have: 0: it is free.
type state []int

// alike is so many frames of which each has so many references.
func alike(frames, refs int) state { return slices.Repeat(state{refs}, frames) }

// but is s with so many references of that frame.
func (s state) but(frame, refs int) state {
	s = slices.Clone(s)
	s[frame] = refs
	return s
}

func (s state) free() []int {
	var free []int
	for frame := range s {
		if s[frame] == 0 {
			free = append(free, frame)
		}
	}
	return free
}

// bits are by other means than by shifting: a frame's bit is twice the one
// ahead of it.
func (s state) bits() uint64 {
	sum, bit := uint64(0), uint64(1)
	for frame := range s {
		if s[frame] == 0 {
			sum += bit
		}
		bit += bit
	}
	return sum
}

// states are all those of so many frames.
func states(frames int) []state {
	ss := []state{{}}
	for range frames {
		var longer []state
		for _, s := range ss {
			for refs := range full + 1 {
				longer = append(longer, append(slices.Clone(s), refs))
			}
		}
		ss = longer
	}
	return ss
}

// few are the states of few frames, and some of the most.
func few() []state {
	ss := slices.Concat(states(1), states(2), states(3))
	for refs := range full + 1 {
		ss = append(ss, alike(most, refs), alike(most, refs).but(0, 0), alike(most, refs).but(15, 0), alike(most, 0).but(7, refs))
	}
	return ss
}

func made(t *testing.T, frames int) *Pool {
	t.Helper()
	p := New(frames)
	if p == nil {
		t.Fatalf("New %d: nil", frames)
	}
	return p
}

// poolAt is a pool that was brought there by calls that each do something.
func poolAt(t *testing.T, s state) *Pool {
	t.Helper()
	p := made(t, len(s))
	for frame := range s {
		take(t, p, frame)
	}
	for frame, refs := range s {
		for range refs - 1 {
			hold(t, p, frame)
		}
		if refs == 0 {
			let(t, p, frame, 0)
		}
	}
	return p
}

func take(t *testing.T, p *Pool, want int) {
	t.Helper()
	if got, ok := p.Take(); got != want || !ok {
		t.Fatalf("Take: %d, %v, not %d", got, ok, want)
	}
}

func takeNone(t *testing.T, p *Pool) {
	t.Helper()
	if got, ok := p.Take(); got != 0 || ok {
		t.Fatalf("Take: %d, %v, not 0, false", got, ok)
	}
}

func hold(t *testing.T, p *Pool, frame int) {
	t.Helper()
	if !p.Hold(frame) {
		t.Fatalf("Hold %d: false", frame)
	}
}

func holdNot(t *testing.T, p *Pool, frame int) {
	t.Helper()
	if p.Hold(frame) {
		t.Fatalf("Hold %d: true", frame)
	}
}

func let(t *testing.T, p *Pool, frame, left int) {
	t.Helper()
	if got, ok := p.Let(frame); got != left || !ok {
		t.Fatalf("Let %d: %d, %v, not %d", frame, got, ok, left)
	}
}

func letNot(t *testing.T, p *Pool, frame int) {
	t.Helper()
	if got, ok := p.Let(frame); got != 0 || ok {
		t.Fatalf("Let %d: %d, %v, not 0, false", frame, got, ok)
	}
}

func refs(t *testing.T, what string, p *Pool, frame, want int) {
	t.Helper()
	if got := p.Refs(frame); got != want {
		t.Fatalf("%s: Refs %d: %d, not %d", what, frame, got, want)
	}
}

// expect holds what p tells of itself against s, without a change of it, the
// first numbers that are no frames with them.
func expect(t *testing.T, what string, p *Pool, s state) {
	t.Helper()
	for frame, want := range s {
		refs(t, what, p, frame, want)
	}
	refs(t, what, p, -1, 0)
	refs(t, what, p, len(s), 0)
	if got := p.Free(); !slices.Equal(got, s.free()) {
		t.Fatalf("%s: Free: %v, not %v", what, got, s.free())
	}
	if got := p.Bits(); got != s.bits() {
		t.Fatalf("%s: Bits: %d, not %d", what, got, s.bits())
	}
}

// finish is expect, and then shows by calls that change p that it was so: it
// takes what is free, and lets go of all.
func finish(t *testing.T, what string, p *Pool, s state) {
	t.Helper()
	expect(t, what, p, s)
	s = slices.Clone(s)
	for _, frame := range s.free() {
		take(t, p, frame)
		s[frame] = 1
	}
	takeNone(t, p)
	expect(t, what+", and all taken", p, s)
	for frame, held := range s {
		for left := held - 1; left >= 0; left-- {
			let(t, p, frame, left)
		}
		letNot(t, p, frame)
		s[frame] = 0
	}
	expect(t, what+", and all let go", p, s)
}

func TestLimits(t *testing.T) {
	if api.MaxFrames != most || api.MaxRefs != full {
		t.Errorf("%d frames of %d references", api.MaxFrames, api.MaxRefs)
	}
}

// All frames of a new pool are free, and no others.
func TestNew(t *testing.T) {
	for frames := 1; frames <= most; frames++ {
		finish(t, "New", made(t, frames), alike(frames, 0))
	}
}

func TestNewOfNoRightNumber(t *testing.T) {
	for _, frames := range append(wrong(most+1), 0, 18, 32, 33, 1<<8+1, 1<<32+16) {
		if frames != most && New(frames) != nil {
			t.Errorf("New %d: not nil", frames)
		}
	}
}

// Take is the frames from 0 on, of one reference each, till there is none; and
// so it stays.
func TestTake(t *testing.T) {
	for frames := 1; frames <= most; frames++ {
		p, s := made(t, frames), alike(frames, 0)
		for frame := range frames {
			take(t, p, frame)
			s[frame] = 1
			expect(t, "Take", p, s)
		}
		for range 3 {
			takeNone(t, p)
			expect(t, "Take of none", p, s)
		}
		finish(t, "Take", p, s)
	}
}

// The frame that was let go is the one to take, be it the least, one in the
// middle, or the greatest.
func TestTakeBehindALet(t *testing.T) {
	for frames := 1; frames <= most; frames++ {
		for frame := range frames {
			p, s := poolAt(t, alike(frames, 1)), alike(frames, 1)
			let(t, p, frame, 0)
			expect(t, "Let", p, s.but(frame, 0))
			take(t, p, frame)
			expect(t, "Take", p, s)
			takeNone(t, p)
			finish(t, "Take of none", p, s)
		}
	}
}

// In whatever order several were let go, the least one is taken first.
func TestTakeBehindSeveralLets(t *testing.T) {
	for _, order := range [][]int{
		{0, 1}, {1, 0}, {15, 0}, {0, 15}, {14, 15}, {15, 14},
		{3, 8, 12}, {3, 12, 8}, {8, 3, 12}, {8, 12, 3}, {12, 3, 8}, {12, 8, 3},
		{0, 1, 2, 3, 4, 5, 6, 7, 8, 9, 10, 11, 12, 13, 14, 15},
		{15, 14, 13, 12, 11, 10, 9, 8, 7, 6, 5, 4, 3, 2, 1, 0},
		{10, 2, 9, 1, 15, 0, 7, 12},
	} {
		p, s := poolAt(t, alike(most, 1)), alike(most, 1)
		for _, frame := range order {
			let(t, p, frame, 0)
			s[frame] = 0
			expect(t, "Let", p, s)
		}
		for _, frame := range slices.Sorted(slices.Values(order)) {
			take(t, p, frame)
			s[frame] = 1
			expect(t, "Take", p, s)
		}
		finish(t, "several", p, s)
	}
}

// A frame that is let go amidst Takes comes ahead of the greater ones that
// nobody took yet.
func TestTakeBetweenLets(t *testing.T) {
	p := made(t, 5)
	take(t, p, 0)
	take(t, p, 1)
	take(t, p, 2)
	let(t, p, 1, 0)
	take(t, p, 1)
	take(t, p, 3)
	let(t, p, 2, 0)
	let(t, p, 0, 0)
	take(t, p, 0)
	take(t, p, 2)
	take(t, p, 4)
	takeNone(t, p)
	finish(t, "between", p, alike(5, 1))
}

// From one reference to seven, and no further.
func TestHold(t *testing.T) {
	for _, frames := range []int{1, 2, 16} {
		for frame := range frames {
			p, s := poolAt(t, alike(frames, 1)), alike(frames, 1)
			for n := 2; n <= full; n++ {
				hold(t, p, frame)
				s = s.but(frame, n)
				expect(t, "Hold", p, s)
			}
			for range 3 {
				holdNot(t, p, frame)
				expect(t, "Hold of one with seven", p, s)
			}
			let(t, p, frame, 6)
			hold(t, p, frame)
			holdNot(t, p, frame)
			finish(t, "Hold", p, s)
		}
	}
}

// One that is free can't be held: one that nobody took, one that was let go.
func TestHoldOfOneThatIsFree(t *testing.T) {
	p := made(t, 3)
	holdNot(t, p, 0)
	holdNot(t, p, 2)
	expect(t, "Hold", p, state{0, 0, 0})
	take(t, p, 0)
	holdNot(t, p, 1)
	let(t, p, 0, 0)
	holdNot(t, p, 0)
	expect(t, "Hold of one that was let go", p, state{0, 0, 0})
	take(t, p, 0)
	hold(t, p, 0)
	finish(t, "Hold", p, state{2, 0, 0})
}

// From seven references to none, and no further.
func TestLet(t *testing.T) {
	for _, frames := range []int{1, 2, 16} {
		for frame := range frames {
			p, s := poolAt(t, alike(frames, full)), alike(frames, full)
			for left := full - 1; left >= 0; left-- {
				let(t, p, frame, left)
				s = s.but(frame, left)
				expect(t, "Let", p, s)
			}
			for range 3 {
				letNot(t, p, frame)
				expect(t, "Let of one that is free", p, s)
			}
			finish(t, "Let", p, s)
		}
	}
}

func TestLetOfOneThatWasNeverTaken(t *testing.T) {
	for _, s := range []state{{0}, {0, 0}, {1, 0}, {7, 0, 0}, alike(most, 0), alike(most, 3).but(15, 0)} {
		p := poolAt(t, s)
		for _, frame := range s.free() {
			letNot(t, p, frame)
			letNot(t, p, frame)
		}
		finish(t, "Let of one that is free", p, s)
	}
	p := made(t, 2)
	take(t, p, 0)
	letNot(t, p, 1)
	finish(t, "Let of one that was never taken", p, state{1, 0})
}

// Whatever it had ahead, a frame that is taken again has one reference.
func TestTakenAgain(t *testing.T) {
	for held := 1; held <= full; held++ {
		p := poolAt(t, state{5, held, 7})
		for left := held - 1; left >= 0; left-- {
			let(t, p, 1, left)
		}
		expect(t, "let go", p, state{5, 0, 7})
		for range 3 {
			take(t, p, 1)
			expect(t, "taken again", p, state{5, 1, 7})
			let(t, p, 1, 0)
			expect(t, "let go again", p, state{5, 0, 7})
		}
		finish(t, "taken again", p, state{5, 0, 7})
	}
}

func TestTakeInEachState(t *testing.T) {
	for _, s := range few() {
		p, free := poolAt(t, s), s.free()
		if len(free) == 0 {
			takeNone(t, p)
			finish(t, "Take of none", p, s)
			continue
		}
		take(t, p, free[0])
		finish(t, "Take", p, s.but(free[0], 1))
	}
}

func TestHoldInEachState(t *testing.T) {
	for _, s := range few() {
		for frame, n := range s {
			p := poolAt(t, s)
			if n == 0 || n == full {
				holdNot(t, p, frame)
				finish(t, "Hold that may not be", p, s)
				continue
			}
			hold(t, p, frame)
			finish(t, "Hold", p, s.but(frame, n+1))
		}
	}
}

func TestLetInEachState(t *testing.T) {
	for _, s := range few() {
		for frame, n := range s {
			p := poolAt(t, s)
			if n == 0 {
				letNot(t, p, frame)
				finish(t, "Let of one that is free", p, s)
				continue
			}
			let(t, p, frame, n-1)
			finish(t, "Let", p, s.but(frame, n-1))
		}
	}
}

// Refs of each frame behind each kind of call.
func TestRefs(t *testing.T) {
	p := made(t, 3)
	expect(t, "New", p, state{0, 0, 0})
	take(t, p, 0)
	expect(t, "Take", p, state{1, 0, 0})
	take(t, p, 1)
	expect(t, "Take", p, state{1, 1, 0})
	hold(t, p, 1)
	expect(t, "Hold", p, state{1, 2, 0})
	holdNot(t, p, 2)
	expect(t, "Hold of one that is free", p, state{1, 2, 0})
	let(t, p, 1, 1)
	expect(t, "Let", p, state{1, 1, 0})
	let(t, p, 0, 0)
	expect(t, "Let to none", p, state{0, 1, 0})
	letNot(t, p, 0)
	expect(t, "Let of one that is free", p, state{0, 1, 0})
	take(t, p, 0)
	take(t, p, 2)
	takeNone(t, p)
	expect(t, "Take of none", p, state{1, 1, 1})
}

// Each of the sets of sixteen frames can be the free ones.
func TestFreeAndBitsOfEachSet(t *testing.T) {
	for set := range 1 << most {
		s := alike(most, 1)
		for frame := range most {
			if set>>frame&1 == 1 {
				s[frame] = 0
			}
		}
		p := poolAt(t, s)
		expect(t, "each set", p, s)
		if got := p.Bits(); got != uint64(set) {
			t.Fatalf("Bits of %v: %d, not %d", s, got, set)
		}
	}
}

// The words that the chapter's rule makes, told one by one.
func TestBits(t *testing.T) {
	for _, x := range []struct {
		s    state
		want uint64
	}{
		{state{0}, 1},
		{state{1}, 0},
		{state{0, 0}, 3},
		{state{0, 1}, 1},
		{state{7, 0}, 2},
		{state{0, 1, 0, 2, 7}, 5},
		{alike(most, 0), 65535},
		{alike(most, 1), 0},
		{alike(most, 7), 0},
		{alike(most, 1).but(0, 0), 1},
		{alike(most, 1).but(15, 0), 32768},
		{alike(most, 0).but(15, 1), 32767},
		{alike(most, 0).but(0, 6), 65534},
	} {
		if got := poolAt(t, x.s).Bits(); got != x.want {
			t.Errorf("Bits of %v: %d, not %d", x.s, got, x.want)
		}
	}
}

// spoil writes into each place of list, and into its spare room, first by
// appending, and then to each place of it.
func spoil(list []int) {
	for at := range list {
		list[at] = -99
	}
	longer := append(list, -98)
	_ = append(longer, -97, -96, -95)
	spare := list[:cap(list)]
	for at := range spare {
		spare[at] = -94
	}
}

// A list of Free that is written into is nobody else's: neither the pool's,
// nor one of another call, ahead or behind, nor another pool's.
func TestFreeIsNewMemory(t *testing.T) {
	for _, s := range append(few(), alike(most, 1), alike(most, 0), alike(5, 1).but(3, 0)) {
		p, q := poolAt(t, s), poolAt(t, s)
		ahead, spoiled, behind := p.Free(), p.Free(), p.Free()
		others := q.Free()
		spoil(spoiled)
		for _, list := range [][]int{ahead, behind, others, p.Free(), q.Free()} {
			if !slices.Equal(list, s.free()) {
				t.Fatalf("beside a list that is written into: %v, not %v", list, s.free())
			}
		}
		finish(t, "a list that is written into", p, s)
		finish(t, "another pool", q, s)
		expect(t, "a new pool", made(t, len(s)), alike(len(s), 0))
	}
}

// Neither does one list's spare room reach into another one.
func TestFreeHasItsOwnSpareRoom(t *testing.T) {
	for free := range most + 1 {
		s := alike(most, 1)
		clear(s[:free])
		p := poolAt(t, s)
		var lists [][]int
		for range 5 {
			lists = append(lists, p.Free())
		}
		for at, list := range lists {
			spare := list[len(list):cap(list)]
			for i := range spare {
				spare[i] = -at - 1
			}
		}
		for at, list := range lists {
			if !slices.Equal(list, s.free()) {
				t.Fatalf("a list: %v, not %v", list, s.free())
			}
			for _, n := range list[len(list):cap(list)] {
				if n != -at-1 {
					t.Fatalf("the spare room of %d holds what was written into another one: %d", at, n)
				}
			}
		}
		finish(t, "spare room", p, s)
	}
}

// A list stays as it was, whatever is done to the pool behind it.
func TestFreeStaysAsItWas(t *testing.T) {
	for _, s := range few() {
		p := poolAt(t, s)
		list := p.Free()
		finish(t, "Free", p, s)
		if !slices.Equal(list, s.free()) {
			t.Fatalf("a list of ahead: %v, not %v", list, s.free())
		}
	}
}

func TestAskingChangesNothing(t *testing.T) {
	for _, s := range few() {
		p := poolAt(t, s)
		for range 5 {
			expect(t, "asked", p, s)
		}
		finish(t, "asked", p, s)
	}
}

// refuses asks p for what is no frame, in each call.
func refuses(t *testing.T, p *Pool, frame int) {
	t.Helper()
	holdNot(t, p, frame)
	letNot(t, p, frame)
	refs(t, "no frame", p, frame, 0)
}

// refusesAll asks for all numbers that are no frames of so many.
func refusesAll(t *testing.T, p *Pool, frames int) {
	t.Helper()
	for _, frame := range wrong(frames) {
		if frame < 0 || frame >= frames {
			refuses(t, p, frame)
		}
	}
}

// What is no frame is refused, and no call that is refused changes anything.
func TestNoFrame(t *testing.T) {
	for frames := 1; frames <= most; frames++ {
		for n := range full + 1 {
			s := alike(frames, n)
			p := poolAt(t, s)
			for range 2 {
				refusesAll(t, p, frames)
			}
			finish(t, "no frame", p, s)
		}
	}
}

// So with one that another, greater pool has.
func TestFrameOfAnotherPool(t *testing.T) {
	great, small := poolAt(t, alike(most, 2)), poolAt(t, alike(4, 2))
	for frame := 4; frame < most; frame++ {
		refuses(t, small, frame)
		hold(t, great, frame)
		refuses(t, small, frame)
	}
	finish(t, "the small one", small, alike(4, 2))
	finish(t, "the great one", great, append(alike(4, 2), alike(12, 3)...))
}

func TestRefusedCallsChangeNothing(t *testing.T) {
	for _, s := range few() {
		p := poolAt(t, s)
		for range 3 {
			for frame, n := range s {
				if n == 0 || n == full {
					holdNot(t, p, frame)
				}
				if n == 0 {
					letNot(t, p, frame)
				}
			}
			if len(s.free()) == 0 {
				takeNone(t, p)
			}
			expect(t, "refused", p, s)
		}
		finish(t, "refused", p, s)
	}
}

// Each pool has its own frames.
func TestTwoPoolsAreTheirOwn(t *testing.T) {
	a, b := made(t, 3), made(t, 3)
	take(t, a, 0)
	take(t, a, 1)
	hold(t, a, 1)
	expect(t, "the one", a, state{1, 2, 0})
	expect(t, "the other one", b, state{0, 0, 0})
	take(t, b, 0)
	take(t, b, 1)
	take(t, b, 2)
	takeNone(t, b)
	let(t, b, 1, 0)
	holdNot(t, b, 1)
	expect(t, "the one", a, state{1, 2, 0})
	expect(t, "the other one", b, state{1, 0, 1})
	expect(t, "one made behind them", made(t, 3), state{0, 0, 0})
	take(t, a, 2)
	let(t, a, 0, 0)
	finish(t, "the other one", b, state{1, 0, 1})
	finish(t, "the one", a, state{0, 2, 1})
}

// expectNone holds p against a pool that has no frames.
func expectNone(t *testing.T, what string, p *Pool) {
	t.Helper()
	for range 2 {
		takeNone(t, p)
		refusesAll(t, p, 0)
		for frame := range most {
			refuses(t, p, frame)
		}
		expect(t, what, p, state{})
	}
}

func TestNil(t *testing.T) {
	expectNone(t, "nil", nil)
	var none *Pool
	if list := none.Free(); list != nil {
		t.Errorf("Free of a nil *Pool: %v, not nil", list)
	}
}

// A Pool that New has not made has no frames, as a nil one.
func TestPoolThatNewHasNotMade(t *testing.T) { expectNone(t, "no New", &Pool{}) }

// model is what a pool should be, told by other means: of each capability
// which frame it leads to, and which frames are free, in no order.
type model struct {
	caps []int
	idle map[int]struct{}
}

func newModel(frames int) *model {
	m := &model{idle: map[int]struct{}{}}
	for frame := range frames {
		m.idle[frame] = struct{}{}
	}
	return m
}

func (m *model) refs(frame int) int {
	n := 0
	for _, f := range m.caps {
		if f == frame {
			n++
		}
	}
	return n
}

func (m *model) state(frames int) state {
	s := alike(frames, 0)
	for _, frame := range m.caps {
		s[frame]++
	}
	return s
}

func (m *model) take(t *testing.T, p *Pool) {
	t.Helper()
	least := most
	for frame := range m.idle {
		least = min(least, frame)
	}
	if least == most {
		takeNone(t, p)
		return
	}
	take(t, p, least)
	delete(m.idle, least)
	m.caps = append(m.caps, least)
}

func (m *model) hold(t *testing.T, p *Pool, frame int) {
	t.Helper()
	if n := m.refs(frame); n == 0 || n == full {
		holdNot(t, p, frame)
		return
	}
	hold(t, p, frame)
	m.caps = append(m.caps, frame)
}

func (m *model) let(t *testing.T, p *Pool, frame int) {
	t.Helper()
	at := slices.Index(m.caps, frame)
	if at < 0 {
		letNot(t, p, frame)
		return
	}
	m.caps = slices.Delete(m.caps, at, at+1)
	let(t, p, frame, m.refs(frame))
	if m.refs(frame) == 0 {
		m.idle[frame] = struct{}{}
	}
}

// Long rows of calls on pools of each size are held against what they should
// be, now with more Takes and Holds than Lets, now with fewer.
func TestRowsOfCalls(t *testing.T) {
	n := uint64(1)
	pick := func(under int) int {
		n = n*6364136223846793005 + 1442695040888963407
		return int(n>>33) % under
	}
	for frames := 1; frames <= most; frames++ {
		p, m := made(t, frames), newModel(frames)
		for round := range 6000 {
			lets := 2 + round/500%2*5
			// The two around the right ones are no frames.
			frame := pick(frames+2) - 1
			switch kind := pick(10); {
			case kind == 0:
				m.take(t, p)
			case kind < 10-lets:
				m.hold(t, p, frame)
			default:
				m.let(t, p, frame)
			}
			expect(t, "a row of calls", p, m.state(frames))
		}
		finish(t, "behind a row of calls", p, m.state(frames))
	}
}
