package epoch

import (
	"fmt"
	"math"
	"slices"
	"testing"

	"messuage/api"
)

const (
	greatest = math.MaxUint64
	most     = 8 // cores
)

// below are numbers that no core has, however many there are.
func below() []int {
	return []int{math.MinInt, math.MinInt + 1, math.MinInt + 2, math.MinInt + 8, -1 << 32, -1<<32 + 1, -256, -255, -9, -8, -7, -3, -2, -1}
}

// beyond are the first one that is not below cores, and some from there on,
// those with them that become a right one when they lose their upper bits.
func beyond(cores int) []int {
	return []int{cores, cores + 1, 2*cores + 1, 64, 255, 256, 257, 1 << 16, 1 << 31, 1 << 32, 1<<32 + 1, 1<<32 + 2, 1 << 60, 1<<60 + 1, 1 << 62, math.MaxInt - 7, math.MaxInt - 1, math.MaxInt}
}

func wrong(cores int) []int { return append(below(), beyond(cores)...) }

// wrongEpochs are numbers that no epoch has where last is the last one, those
// with them that become a right one when they lose their upper bits.
func wrongEpochs(last uint64) []uint64 {
	epochs := []uint64{0, last + 1, last + 2, 2*last + 3, 1<<31 - 1, 1 << 31, 1<<32 - 1, 1<<63 - 1, 1 << 63, greatest - last, greatest - 1, greatest}
	for _, bit := range []int{16, 31, 32, 62, 63} {
		epochs = append(epochs, 1<<bit+1, last+1<<bit)
	}
	return epochs
}

// state is what Epochs should be: of each epoch, of each core, whether it has
// heard of it.
type state struct {
	cores int
	heard [][]bool
}

// begun is an Epochs of which the cores began epochs in that order.
func begun(t *testing.T, cores int, froms ...int) (*Epochs, *state) {
	t.Helper()
	e, s := made(t, cores), &state{cores: cores}
	for _, from := range froms {
		s.begin(t, e, from)
	}
	return e, s
}

// byAll is one of so many cores of which each began an epoch, one behind the
// other, so often.
func byAll(t *testing.T, cores, times int) (*Epochs, *state) {
	t.Helper()
	e, s := begun(t, cores)
	for range times {
		for core := range cores {
			s.begin(t, e, core)
		}
	}
	return e, s
}

func made(t *testing.T, cores int) *Epochs {
	t.Helper()
	e := New(cores)
	if e == nil {
		t.Fatalf("New %d: nil", cores)
	}
	return e
}

func (s *state) last() uint64 { return uint64(len(s.heard)) }

// begin does a Begin of a right core, and has s follow it.
func (s *state) begin(t *testing.T, e *Epochs, from int) {
	t.Helper()
	heard := make([]bool, s.cores)
	heard[from] = true
	s.heard = append(s.heard, heard)
	if got, ok := e.Begin(from); got != s.last() || !ok {
		t.Fatalf("Begin %d: %d, %v, not %d", from, got, ok, s.last())
	}
}

// ack does an Ack of a right core and a right epoch, and has s follow it.
func (s *state) ack(t *testing.T, e *Epochs, core int, epoch uint64) {
	t.Helper()
	if !e.Ack(core, epoch) {
		t.Fatalf("Ack %d, %d: false", core, epoch)
	}
	for n := range epoch {
		s.heard[n][core] = true
	}
}

func beginNot(t *testing.T, e *Epochs, from int) {
	t.Helper()
	if got, ok := e.Begin(from); got != 0 || ok {
		t.Errorf("Begin %d: %d, %v, not 0, false", from, got, ok)
	}
}

func ackNot(t *testing.T, e *Epochs, core int, epoch uint64) {
	t.Helper()
	if e.Ack(core, epoch) {
		t.Errorf("Ack %d, %d: true", core, epoch)
	}
}

// waits are the cores that should not have heard of that epoch.
func (s *state) waits(epoch uint64) []int {
	var cores []int
	for core, heard := range s.heard[epoch-1] {
		if !heard {
			cores = append(cores, core)
		}
	}
	return cores
}

// tell holds what e tells of one epoch against what it should. A list of none
// is nil itself.
func tell(t *testing.T, what string, e *Epochs, epoch uint64, waits []int, done bool) {
	t.Helper()
	if got := e.Waits(epoch); !slices.Equal(got, waits) || (got == nil) != (waits == nil) {
		t.Fatalf("%s: Waits %d: %v, not %v", what, epoch, got, waits)
	}
	if got := e.Done(epoch); got != done {
		t.Fatalf("%s: Done %d: %v", what, epoch, got)
	}
}

// expect holds what e tells of itself against s, without a change of it.
func expect(t *testing.T, what string, e *Epochs, s *state) {
	t.Helper()
	if got := e.Now(); got != s.last() {
		t.Fatalf("%s: Now: %d, not %d", what, got, s.last())
	}
	for epoch := uint64(1); epoch <= s.last(); epoch++ {
		waits := s.waits(epoch)
		tell(t, what, e, epoch, waits, len(waits) == 0)
	}
	for _, epoch := range wrongEpochs(s.last()) {
		tell(t, what+", no such epoch", e, epoch, nil, false)
	}
}

// finish is expect, and then shows by calls that change e that it was so: a
// Begin of each core, and an Ack of each, of an early epoch and of the last.
func finish(t *testing.T, what string, e *Epochs, s *state) {
	t.Helper()
	expect(t, what, e, s)
	for core := range s.cores {
		s.begin(t, e, core)
		expect(t, what+", and Begin", e, s)
	}
	for core := range s.cores {
		for _, epoch := range []uint64{1, s.last() / 2, s.last()} {
			if epoch > 0 {
				s.ack(t, e, core, epoch)
			}
			expect(t, what+", and Ack", e, s)
		}
	}
}

func TestLimit(t *testing.T) {
	if api.MaxCores != most {
		t.Errorf("api.MaxCores: %d", api.MaxCores)
	}
}

func TestNew(t *testing.T) {
	for cores := 1; cores <= most; cores++ {
		e, s := begun(t, cores)
		if e.Now() != 0 {
			t.Errorf("Now of none: %d", e.Now())
		}
		finish(t, "New", e, s)
	}
}

// Of each number of cores there are those from 0 on, and no others.
func TestNewHasSoManyCores(t *testing.T) {
	for cores := 1; cores <= most; cores++ {
		e, s := byAll(t, cores, 1)
		beginNot(t, e, cores)
		beginNot(t, e, -1)
		ackNot(t, e, cores, 1)
		ackNot(t, e, -1, 1)
		finish(t, "New", e, s)
	}
}

func TestNewOfNoRightNumber(t *testing.T) {
	for _, cores := range append(wrong(most+1), 0) {
		if New(cores) != nil {
			t.Errorf("New %d: not nil", cores)
		}
	}
}

// What is done to one of two is not done to the other, whichever was made
// first, nor to one that is made behind it.
func TestTwoEpochsAreTheirOwn(t *testing.T) {
	a, as := begun(t, 3, 0, 1)
	b, bs := begun(t, 3, 2)
	as.ack(t, a, 2, 2)
	expect(t, "the other one", b, bs)
	as.begin(t, a, 0)
	as.ack(t, a, 1, 3)
	expect(t, "the other one", b, bs)
	bs.ack(t, b, 0, 1)
	ackNot(t, b, 0, 2)
	bs.begin(t, b, 1)
	expect(t, "the one", a, as)
	c, cs := begun(t, 3)
	finish(t, "the other one", b, bs)
	finish(t, "the one", a, as)
	finish(t, "one made behind them", c, cs)
}

// By each core of each number of them: all others are to hear of it, and it
// has.
func TestBegin(t *testing.T) {
	for cores := 1; cores <= most; cores++ {
		for from := range cores {
			e := made(t, cores)
			if got, ok := e.Begin(from); got != 1 || !ok {
				t.Errorf("Begin %d: %d, %v", from, got, ok)
			}
			var others []int
			for core := range cores {
				if core != from {
					others = append(others, core)
				}
			}
			tell(t, "Begin", e, 1, others, cores == 1)
			tell(t, "Begin", e, 2, nil, false)
		}
	}
}

// Epochs are begun from 1 on, one behind the other, though nobody hears of any.
func TestBeginOfMany(t *testing.T) {
	for _, cores := range []int{1, 2, 5, most} {
		e, s := begun(t, cores)
		for n := range 60 {
			s.begin(t, e, n*3%cores)
			if e.Now() != uint64(n+1) {
				t.Errorf("Now behind Begin: %d, not %d", e.Now(), n+1)
			}
			expect(t, "Begin", e, s)
		}
		finish(t, "Begin", e, s)
	}
}

// One core begins them all.
func TestBeginByOneCore(t *testing.T) {
	for from := range 4 {
		e, s := begun(t, 4, from, from, from, from, from)
		finish(t, "Begin by one core", e, s)
	}
}

// Who begins a later epoch has not heard of an earlier one by that alone.
func TestBeginIsNoAckOfEarlierOnes(t *testing.T) {
	e, s := begun(t, 3, 0, 1, 2, 1)
	tell(t, "Begin", e, 1, []int{1, 2}, false)
	tell(t, "Begin", e, 2, []int{0, 2}, false)
	tell(t, "Begin", e, 3, []int{0, 1}, false)
	tell(t, "Begin", e, 4, []int{0, 2}, false)
	finish(t, "Begin", e, s)
}

// Nor of a later one, which another begins behind it.
func TestBeginIsNoAckOfLaterOnes(t *testing.T) {
	e, s := begun(t, 2, 0)
	s.ack(t, e, 1, 1)
	s.begin(t, e, 0)
	s.begin(t, e, 1)
	tell(t, "Begin", e, 1, nil, true)
	tell(t, "Begin", e, 2, []int{1}, false)
	tell(t, "Begin", e, 3, []int{0}, false)
	finish(t, "Begin", e, s)
}

// The next epoch is the next one whatever was heard of those before.
func TestBeginBetweenAcks(t *testing.T) {
	e, s := begun(t, 3)
	for n := range 40 {
		s.begin(t, e, n%3)
		s.ack(t, e, (n+1)%3, s.last())
		expect(t, "Ack of the last one", e, s)
		s.ack(t, e, (n+2)%3, (s.last()+1)/2)
		expect(t, "Ack of one amidst", e, s)
		ackNot(t, e, n%3, s.last()+1)
	}
	finish(t, "Begin between Acks", e, s)
}

func TestBeginOfNoSuchCore(t *testing.T) {
	for cores := 1; cores <= most; cores++ {
		e, s := begun(t, cores)
		for _, from := range wrong(cores) {
			beginNot(t, e, from)
		}
		expect(t, "Begin of no such core", e, s)
		e, s = byAll(t, cores, 2)
		s.ack(t, e, cores-1, 2)
		for _, from := range wrong(cores) {
			beginNot(t, e, from)
			beginNot(t, e, from)
			expect(t, "Begin of no such core", e, s)
		}
		finish(t, "Begin of no such core", e, s)
	}
}

// By each core, of each epoch: it has heard of that one and all before it, of
// no later one, and no other core has.
func TestAck(t *testing.T) {
	for _, cores := range []int{1, 2, 3, most} {
		for core := range cores {
			_, all := byAll(t, cores, 2)
			for epoch := uint64(1); epoch <= all.last(); epoch++ {
				e, s := byAll(t, cores, 2)
				s.ack(t, e, core, epoch)
				finish(t, "Ack", e, s)
			}
		}
	}
}

func TestAckOfAllBefore(t *testing.T) {
	e, s := begun(t, 3, 0, 0, 1, 0, 0)
	s.ack(t, e, 2, 4)
	tell(t, "Ack", e, 1, []int{1}, false)
	tell(t, "Ack", e, 2, []int{1}, false)
	tell(t, "Ack", e, 3, []int{0}, false)
	tell(t, "Ack", e, 4, []int{1}, false)
	tell(t, "Ack", e, 5, []int{1, 2}, false)
	finish(t, "Ack", e, s)
}

// An epoch that is begun behind an Ack is none that was heard of by it.
func TestAckOfNoLaterOne(t *testing.T) {
	e, s := begun(t, 2, 0)
	s.ack(t, e, 1, 1)
	tell(t, "Ack", e, 1, nil, true)
	s.begin(t, e, 0)
	tell(t, "Ack, and Begin", e, 1, nil, true)
	tell(t, "Ack, and Begin", e, 2, []int{1}, false)
	finish(t, "Ack, and Begin", e, s)
}

// Twice and more, with other calls between.
func TestAckAgain(t *testing.T) {
	e, s := begun(t, 3, 0, 1, 2, 0)
	for range 3 {
		for core := range 2 {
			s.ack(t, e, core, 3)
			s.ack(t, e, core, 3)
			expect(t, "Ack again", e, s)
		}
	}
	s.begin(t, e, 2)
	s.ack(t, e, 0, 3)
	s.ack(t, e, 1, 3)
	finish(t, "Ack again", e, s)
}

// A later one ahead of an earlier one: the earlier one takes nothing back.
func TestAckOfEarlierOnesBehind(t *testing.T) {
	for core := range 3 {
		e, s := byAll(t, 3, 2)
		for _, epoch := range []uint64{5, 2, 4, 1, 3, 5} {
			s.ack(t, e, core, epoch)
			expect(t, "Ack of an earlier one", e, s)
		}
		finish(t, "Ack of an earlier one", e, s)
	}
}

// Each core hears of each of four epochs, in every order of these.
func TestAckInAllOrders(t *testing.T) {
	n := 0
	orders([]uint64{1, 2, 3, 4}, func(order []uint64) {
		n++
		e, s := begun(t, 3, 1, 0, 1, 2)
		for core := range 3 {
			for _, epoch := range order {
				s.ack(t, e, core, epoch)
				expect(t, "Ack", e, s)
			}
		}
		finish(t, "Ack", e, s)
	})
	if n != 24 {
		t.Errorf("%d orders", n)
	}
}

// orders shows all orders of epochs.
func orders(epochs []uint64, show func(order []uint64)) {
	var from func(order []uint64, at int)
	from = func(order []uint64, at int) {
		if at == len(order) {
			show(order)
			return
		}
		for i := at; i < len(order); i++ {
			order[at], order[i] = order[i], order[at]
			from(order, at+1)
			order[at], order[i] = order[i], order[at]
		}
	}
	from(slices.Clone(epochs), 0)
}

// It has heard of its own one already: that is true, and tells of those before.
func TestAckByWhoBeganIt(t *testing.T) {
	for from := range 3 {
		e, s := begun(t, 3, from)
		s.ack(t, e, from, 1)
		finish(t, "the first one", e, s)
		e, s = begun(t, 3, (from+1)%3, (from+2)%3, from, (from+1)%3)
		s.ack(t, e, from, 3)
		finish(t, "one behind others", e, s)
	}
}

func TestAckOfNoSuchCore(t *testing.T) {
	for cores := 1; cores <= most; cores++ {
		e, s := byAll(t, cores, 2)
		s.ack(t, e, 0, 2)
		for _, core := range wrong(cores) {
			for epoch := uint64(1); epoch <= s.last(); epoch++ {
				ackNot(t, e, core, epoch)
			}
			for _, epoch := range wrongEpochs(s.last()) {
				ackNot(t, e, core, epoch)
			}
			expect(t, "Ack of no such core", e, s)
		}
		finish(t, "Ack of no such core", e, s)
	}
}

func TestAckOfNoSuchEpoch(t *testing.T) {
	for cores := 1; cores <= most; cores++ {
		for _, times := range []int{0, 1, 3} {
			e, s := byAll(t, cores, times)
			for core := range cores {
				for _, epoch := range wrongEpochs(s.last()) {
					ackNot(t, e, core, epoch)
					expect(t, "Ack of no such epoch", e, s)
				}
			}
			finish(t, "Ack of no such epoch", e, s)
		}
	}
}

// What was no epoch when a core told that it heard of it may be begun later:
// nobody but its own core has heard of it then.
func TestAckAheadOfBegin(t *testing.T) {
	e, s := begun(t, 3)
	for n := range 6 {
		for core := range 3 {
			ackNot(t, e, core, s.last()+1)
			ackNot(t, e, core, s.last()+2)
		}
		s.begin(t, e, n%3)
		expect(t, "Ack ahead of Begin", e, s)
	}
	finish(t, "Ack ahead of Begin", e, s)
}

// Each set of cores hears of an epoch: the others wait, rising, each once.
func TestWaits(t *testing.T) {
	for from := range most {
		for set := range 1 << most {
			e, s := begun(t, most, from)
			var waits []int
			for core := most - 1; core >= 0; core-- {
				if set>>core&1 == 1 {
					s.ack(t, e, core, 1)
				} else if core != from {
					waits = append(waits, core)
				}
			}
			slices.Reverse(waits)
			tell(t, "Waits", e, 1, waits, len(waits) == 0)
			expect(t, "Waits", e, s)
		}
	}
}

// Of epochs of which all have heard, of one of which none but its own core
// has, and of what lies between.
func TestWaitsOfEachKind(t *testing.T) {
	e, s := begun(t, 4, 2, 3, 1, 0)
	for core := range 4 {
		s.ack(t, e, core, 1)
	}
	s.ack(t, e, 0, 2)
	s.ack(t, e, 3, 3)
	tell(t, "all have heard", e, 1, nil, true)
	tell(t, "two have not", e, 2, []int{1, 2}, false)
	tell(t, "two others have not", e, 3, []int{0, 2}, false)
	tell(t, "none but its own core has", e, 4, []int{1, 2, 3}, false)
	tell(t, "no such epoch", e, 5, nil, false)
	tell(t, "no such epoch", e, 0, nil, false)
	finish(t, "Waits", e, s)
}

// Done is false ahead of the last Ack, and true behind it and from there on,
// in whichever order the others hear of it.
func TestDone(t *testing.T) {
	for cores := 2; cores <= most; cores++ {
		for from := range cores {
			for _, way := range []int{1, cores - 1} {
				e, s := begun(t, cores, from)
				for n := 1; n < cores; n++ {
					tell(t, "ahead of the last Ack", e, 1, s.waits(1), false)
					s.ack(t, e, (from+n*way)%cores, 1)
				}
				tell(t, "behind the last Ack", e, 1, nil, true)
				s.begin(t, e, from)
				tell(t, "behind Begin", e, 1, nil, true)
				tell(t, "behind Begin", e, 2, s.waits(2), false)
			}
		}
	}
}

// Each core is the last one of those that hear of an epoch once.
func TestDoneByEachLastCore(t *testing.T) {
	for last := range most {
		e, s := byAll(t, most, 1)
		for core := range most {
			if core != last {
				s.ack(t, e, core, most)
			}
		}
		for epoch := uint64(1); epoch <= most; epoch++ {
			own := epoch == uint64(last)+1
			if e.Done(epoch) != own {
				t.Errorf("ahead of the last Ack, of %d: Done %d: %v", last, epoch, !own)
			}
		}
		expect(t, "ahead of the last Ack", e, s)
		for epoch := uint64(1); epoch <= most; epoch++ {
			s.ack(t, e, last, epoch)
			if !e.Done(epoch) {
				t.Errorf("behind the last Ack, of %d: Done %d: false", last, epoch)
			}
			expect(t, "behind the last Ack", e, s)
		}
		finish(t, "Done", e, s)
	}
}

// The core that began the later one is the last that has not heard of the
// earlier one, so that the later one is done first.
func TestDoneWhileAnEarlierOneIsNot(t *testing.T) {
	e, s := begun(t, 2, 0, 1)
	s.ack(t, e, 0, 2)
	tell(t, "the earlier one", e, 1, []int{1}, false)
	tell(t, "the later one", e, 2, nil, true)
	s.begin(t, e, 1)
	s.begin(t, e, 0)
	s.ack(t, e, 0, 3)
	tell(t, "the earlier one", e, 1, []int{1}, false)
	tell(t, "the later one", e, 3, nil, true)
	tell(t, "the last one", e, 4, []int{1}, false)
	s.ack(t, e, 1, 1)
	tell(t, "the earlier one", e, 1, nil, true)
	tell(t, "the later one", e, 2, nil, true)
	finish(t, "Done", e, s)
}

func TestDoneWhileALaterOneIsNot(t *testing.T) {
	e, s := begun(t, 2, 0, 0)
	s.ack(t, e, 1, 1)
	tell(t, "the earlier one", e, 1, nil, true)
	tell(t, "the later one", e, 2, []int{1}, false)
	finish(t, "Done", e, s)
}

// One core alone: its epochs are done at once.
func TestOneCore(t *testing.T) {
	e, s := begun(t, 1)
	for n := range uint64(30) {
		s.begin(t, e, 0)
		tell(t, "one core", e, n+1, nil, true)
		tell(t, "one core", e, n+2, nil, false)
		expect(t, "one core", e, s)
	}
	s.ack(t, e, 0, 7)
	finish(t, "one core", e, s)
}

// Who writes into a list that was answered, or appends to it, changes nothing
// that is kept, and nothing that another call answered.
func TestWaitsIsNewMemory(t *testing.T) {
	for cores := 2; cores <= most; cores++ {
		e, s := byAll(t, cores, 2)
		var lists [][]int
		for epoch := uint64(1); epoch <= s.last(); epoch++ {
			lists = append(lists, e.Waits(epoch), e.Waits(epoch))
		}
		for n, list := range lists {
			epoch := uint64(n/2 + 1)
			if !slices.Equal(list, s.waits(epoch)) {
				t.Errorf("the list of %d: %v, not %v", epoch, list, s.waits(epoch))
			}
			spoil(list)
			expect(t, "the list was written into", e, s)
		}
		finish(t, "the lists were written into", e, s)
	}
}

// spoil writes into a list, and into its spare room.
func spoil(list []int) {
	list = append(list, 70)
	list = list[:cap(list)]
	for n := range list {
		list[n] = -7
	}
}

// A list that was answered stays as it was, whatever is done behind it.
func TestWaitsStays(t *testing.T) {
	e, s := begun(t, 4, 1, 2)
	first, second := e.Waits(1), e.Waits(2)
	for core := range 4 {
		s.ack(t, e, core, 2)
		s.begin(t, e, core)
	}
	e.Waits(3)
	if !slices.Equal(first, []int{0, 2, 3}) || !slices.Equal(second, []int{0, 1, 3}) {
		t.Errorf("the lists behind other calls: %v, %v", first, second)
	}
	finish(t, "the lists", e, s)
}

func TestAskingChangesNothing(t *testing.T) {
	e, s := byAll(t, 3, 3)
	s.ack(t, e, 1, 5)
	s.ack(t, e, 2, 2)
	for range 3 {
		expect(t, "asked", e, s)
	}
	finish(t, "asked", e, s)
}

func TestNil(t *testing.T) {
	var e *Epochs
	for _, core := range append(wrong(most), 0, 1, 7) {
		beginNot(t, e, core)
		for _, epoch := range append(wrongEpochs(1), 1) {
			ackNot(t, e, core, epoch)
		}
	}
	for _, epoch := range append(wrongEpochs(1), 1) {
		tell(t, "nil", e, epoch, nil, false)
	}
	if e.Now() != 0 {
		t.Errorf("nil: Now: %d", e.Now())
	}
}

// What New has not made has no cores.
func TestNotMade(t *testing.T) {
	e, s := &Epochs{}, &state{}
	for _, core := range append(wrong(most), 0, 1, 7) {
		beginNot(t, e, core)
		ackNot(t, e, core, 1)
	}
	expect(t, "not made", e, s)
}

// move is a Begin of that core, or, with an epoch, an Ack.
type move struct {
	core  int
	epoch uint64
}

// play does the moves on a new Epochs.
func play(t *testing.T, cores int, moves []move) (*Epochs, *state) {
	t.Helper()
	e, s := begun(t, cores)
	for _, m := range moves {
		if m.epoch == 0 {
			s.begin(t, e, m.core)
		} else {
			s.ack(t, e, m.core, m.epoch)
		}
	}
	return e, s
}

// Every row of a few Begins and Acks.
func TestEveryRow(t *testing.T) {
	for _, x := range []struct{ cores, moves int }{{1, 6}, {2, 6}, {3, 5}} {
		everyRow(t, x.cores, x.moves, nil)
	}
}

func everyRow(t *testing.T, cores, left int, moves []move) {
	e, s := play(t, cores, moves)
	expect(t, fmt.Sprint(cores, " cores: ", moves), e, s)
	if left == 0 {
		return
	}
	for core := range cores {
		for epoch := range s.last() + 1 {
			everyRow(t, cores, left-1, append(slices.Clone(moves), move{core, epoch}))
		}
	}
}

// A long row of calls, wrong ones among them, picked by a rule that mixes.
func TestLongRow(t *testing.T) {
	for cores := 1; cores <= most; cores++ {
		e, s := begun(t, cores)
		seed := uint64(cores)
		next := func(below uint64) uint64 {
			seed = seed*6364136223846793005 + 1442695040888963407
			return seed >> 33 % below
		}
		for range 1500 {
			core := int(next(uint64(cores)))
			epoch := s.last() - min(s.last(), next(12))
			switch {
			case next(10) == 0:
				s.begin(t, e, core)
			case next(10) == 0:
				beginNot(t, e, core+cores)
				ackNot(t, e, core-cores, epoch)
				ackNot(t, e, core, s.last()+1+epoch)
			case epoch > 0:
				s.ack(t, e, core, epoch)
			}
			expect(t, "a long row", e, s)
		}
		finish(t, "a long row", e, s)
	}
}

// Many epochs that nobody hears of for long, and then of one behind the other.
func TestManyEpochs(t *testing.T) {
	const many = 50000
	e := made(t, most)
	for n := uint64(1); n <= many; n++ {
		if got, ok := e.Begin(int(n % most)); got != n || !ok {
			t.Fatalf("Begin: %d, %v, not %d", got, ok, n)
		}
	}
	for n := uint64(1); n <= many; n++ {
		own := int(n % most)
		for core := range most {
			if core != own && (e.Done(n) || !e.Ack(core, n)) {
				t.Fatalf("Ack %d, %d", core, n)
			}
		}
		if !e.Done(n) || n < many && e.Done(n+1) {
			t.Fatalf("Done behind all Acks of %d", n)
		}
	}
}

// One at a time, each heard of ahead of the next, so that none piles up.
func TestManyEpochsInTurn(t *testing.T) {
	e := made(t, most)
	for n := uint64(1); n <= 50000; n++ {
		from := int(n*3) % most
		if got, ok := e.Begin(from); got != n || !ok || e.Now() != n {
			t.Fatalf("Begin: %d, %v, not %d", got, ok, n)
		}
		for core := range most {
			if core != from && (e.Done(n) || !e.Ack(core, n)) {
				t.Fatalf("Ack %d, %d", core, n)
			}
		}
		if !e.Done(n) {
			t.Fatalf("Done %d: false", n)
		}
	}
	tell(t, "in turn", e, 1, nil, true)
	tell(t, "in turn", e, 25000, nil, true)
}
