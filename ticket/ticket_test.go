package ticket

import (
	"math"
	"slices"
	"sync"
	"testing"
)

const greatest = math.MaxUint64

// numbers are words of which some lose their upper bits or their sign where
// they are kept as less than 64 bits, or as numbers with a sign.
func numbers() []uint64 {
	return []uint64{0, 1, 2, 7, 255, 256, 1<<31 - 1, 1 << 31, 1<<32 - 1, 1 << 32, 1<<32 + 1, 1 << 53, 1<<53 + 1, 1<<63 - 1, 1 << 63, 1<<63 + 1, greatest - 1, greatest}
}

// state is what a lock should be.
type state struct{ drawn, passed uint64 }

// states are all those of few tickets.
func states() []state {
	var ss []state
	for drawn := range uint64(6) {
		for passed := range drawn + 1 {
			ss = append(ss, state{drawn, passed})
		}
	}
	return ss
}

// turn tells whether it should be t's turn: of none where all have passed.
func (s state) turn(t uint64) bool { return s.passed < s.drawn && t == s.passed }

// tickets are those that were drawn, those around them, and others that nobody
// drew, of which some look like the one whose turn it is.
func (s state) tickets() []uint64 {
	ts := numbers()
	for t := range s.drawn + 3 {
		ts = append(ts, t)
	}
	for _, bit := range []uint64{8, 16, 31, 32, 62, 63} {
		ts = append(ts, s.passed+1<<bit, s.passed|1<<bit)
	}
	slices.Sort(ts)
	return slices.Compact(ts)
}

func made(t *testing.T) *Lock {
	t.Helper()
	l := New()
	if l == nil {
		t.Fatal("New: nil")
	}
	return l
}

// lockAt is a lock that was brought there by calls that each do something.
func lockAt(t *testing.T, s state) *Lock {
	t.Helper()
	l := made(t)
	for ticket := range s.drawn {
		draw(t, l, ticket)
	}
	for ticket := range s.passed {
		pass(t, l, ticket, true)
	}
	return l
}

func draw(t *testing.T, l *Lock, want uint64) {
	t.Helper()
	if got := l.Draw(); got != want {
		t.Fatalf("Draw: %d, not %d", got, want)
	}
}

func turn(t *testing.T, l *Lock, ticket uint64, want bool) {
	t.Helper()
	if got := l.Turn(ticket); got != want {
		t.Fatalf("Turn %d: %v", ticket, got)
	}
}

func pass(t *testing.T, l *Lock, ticket uint64, want bool) {
	t.Helper()
	if got := l.Pass(ticket); got != want {
		t.Fatalf("Pass %d: %v", ticket, got)
	}
}

func waits(t *testing.T, what string, l *Lock, want uint64) {
	t.Helper()
	if got := l.Waits(); got != want {
		t.Fatalf("%s: Waits: %d, not %d", what, got, want)
	}
}

// expect holds what l tells of itself against s, without a change of it.
func expect(t *testing.T, what string, l *Lock, s state) {
	t.Helper()
	for _, ticket := range s.tickets() {
		if got := l.Turn(ticket); got != s.turn(ticket) {
			t.Fatalf("%s: Turn %d: %v", what, ticket, got)
		}
	}
	waits(t, what, l, s.drawn-s.passed)
}

// finish is expect, and then shows by calls that change l that it was so:
// the ticket that is drawn next, and the turn of each that has not passed.
func finish(t *testing.T, what string, l *Lock, s state) {
	t.Helper()
	expect(t, what, l, s)
	draw(t, l, s.drawn)
	s.drawn++
	expect(t, what+", and Draw", l, s)
	for s.passed < s.drawn {
		pass(t, l, s.passed, true)
		s.passed++
		expect(t, what+", and Pass", l, s)
	}
}

func TestNew(t *testing.T) {
	l := made(t)
	expect(t, "New", l, state{})
	for _, ticket := range (state{}).tickets() {
		pass(t, l, ticket, false)
		turn(t, l, ticket, false)
		waits(t, "Pass of a new lock", l, 0)
	}
	finish(t, "New", l, state{})
}

// Tickets are drawn one behind the other from 0 on, though none passes.
func TestDraw(t *testing.T) {
	l := made(t)
	for ticket := range uint64(100) {
		draw(t, l, ticket)
		expect(t, "Draw", l, state{drawn: ticket + 1})
	}
}

// As many wait at once as the round says: Passes, be they some that did
// something or some that did nothing, and Turns don't move what is drawn next.
func TestDrawBetweenPasses(t *testing.T) {
	for waiting := range uint64(5) {
		s := state{drawn: waiting}
		l := lockAt(t, s)
		for range 40 {
			draw(t, l, s.drawn)
			s.drawn++
			expect(t, "Draw", l, s)
			pass(t, l, s.drawn, false)
			pass(t, l, s.passed+1, false)
			pass(t, l, s.passed, true)
			pass(t, l, s.passed, false)
			s.passed++
			expect(t, "Pass", l, s)
		}
		finish(t, "Draw between Passes", l, s)
	}
}

// kind is a ticket of a lock, and whether it should be its turn.
type kind struct {
	what   string
	ticket uint64
	turn   bool
}

// kinds are those of a lock of which five were drawn and two have passed.
func kinds() []kind {
	return []kind{
		{"one that has passed", 0, false},
		{"the one ahead of it, which has passed", 1, false},
		{"the one whose turn it is", 2, true},
		{"the one behind it", 3, false},
		{"the last one that was drawn", 4, false},
		{"the next one that was not drawn yet", 5, false},
		{"the one behind that", 6, false},
		{"one that nobody drew", 1 << 63, false},
		{"the greatest number", greatest, false},
	}
}

func TestTurn(t *testing.T) {
	s := state{drawn: 5, passed: 2}
	l := lockAt(t, s)
	for _, x := range kinds() {
		for range 2 {
			if got := l.Turn(x.ticket); got != x.turn {
				t.Errorf("Turn of %s: %v", x.what, got)
			}
		}
	}
	finish(t, "Turn", l, s)
}

func TestPass(t *testing.T) {
	for _, x := range kinds() {
		s := state{drawn: 5, passed: 2}
		l := lockAt(t, s)
		if got := l.Pass(x.ticket); got != x.turn {
			t.Errorf("Pass of %s: %v", x.what, got)
		}
		if x.turn {
			s.passed++
		}
		finish(t, "Pass of "+x.what, l, s)
	}
}

// Each ticket in each state of few tickets.
func TestTurnInEachState(t *testing.T) {
	for _, s := range states() {
		finish(t, "each state", lockAt(t, s), s)
	}
}

// So with Pass, which comes again then: the turn was that ticket's once.
func TestPassInEachState(t *testing.T) {
	for _, s := range states() {
		for _, ticket := range s.tickets() {
			l, then := lockAt(t, s), s
			pass(t, l, ticket, s.turn(ticket))
			if s.turn(ticket) {
				then.passed++
			}
			expect(t, "Pass", l, then)
			pass(t, l, ticket, false)
			finish(t, "Pass again", l, then)
		}
	}
}

// All tickets whose turn it is not, one behind the other, on one lock.
func TestPassOfManyThatMayNot(t *testing.T) {
	for _, s := range states() {
		l := lockAt(t, s)
		for range 2 {
			for _, ticket := range s.tickets() {
				if !s.turn(ticket) {
					pass(t, l, ticket, false)
				}
			}
			expect(t, "Pass of many that may not", l, s)
		}
		finish(t, "Pass of many that may not", l, s)
	}
}

// Where all have passed it is nobody's turn, until the next one is drawn; and
// no Pass from before that counts for it.
func TestAllHavePassed(t *testing.T) {
	l := made(t)
	for next := range uint64(20) {
		for range 2 {
			turn(t, l, next, false)
			pass(t, l, next, false)
			waits(t, "all have passed", l, 0)
		}
		draw(t, l, next)
		turn(t, l, next, true)
		turn(t, l, next+1, false)
		pass(t, l, next+1, false)
		waits(t, "the next one", l, 1)
		turn(t, l, next, true)
		pass(t, l, next, true)
		turn(t, l, next, false)
		pass(t, l, next, false)
		waits(t, "all have passed again", l, 0)
	}
	finish(t, "all have passed", l, state{drawn: 20, passed: 20})
}

// None passes out of the order in which they were drawn.
func TestPassFromTheLastOn(t *testing.T) {
	s := state{drawn: 10}
	l := lockAt(t, s)
	for range s.drawn {
		for ticket := s.drawn; ticket > s.passed; ticket-- {
			pass(t, l, ticket, false)
		}
		pass(t, l, s.passed, true)
		s.passed++
		expect(t, "from the last on", l, s)
	}
	finish(t, "from the last on", l, s)
}

// Behind each kind of call, with none, one and many who wait.
func TestWaits(t *testing.T) {
	for _, waiting := range []uint64{0, 1, 2, 300} {
		for _, gone := range []uint64{0, 1, 300} {
			l := lockAt(t, state{drawn: gone + waiting, passed: gone})
			waits(t, "ahead", l, waiting)
			waits(t, "Waits", l, waiting)
			draw(t, l, gone+waiting)
			waits(t, "Draw", l, waiting+1)
			turn(t, l, gone, true)
			waits(t, "Turn that is", l, waiting+1)
			turn(t, l, gone+1, false)
			waits(t, "Turn that is not", l, waiting+1)
			pass(t, l, gone+waiting+1, false)
			waits(t, "Pass that did nothing", l, waiting+1)
			pass(t, l, gone, true)
			waits(t, "Pass that did something", l, waiting)
			pass(t, l, gone, false)
			waits(t, "Pass again", l, waiting)
		}
	}
}

func TestAskingChangesNothing(t *testing.T) {
	for _, s := range states() {
		l := lockAt(t, s)
		for range 20 {
			expect(t, "asked", l, s)
		}
		finish(t, "asked", l, s)
	}
}

func TestManyDrawsAndPasses(t *testing.T) {
	const many = 200000
	l := made(t)
	for ticket := range uint64(many) {
		draw(t, l, ticket)
		turn(t, l, ticket, ticket == 0)
		waits(t, "Draw", l, ticket+1)
	}
	for ticket := range uint64(many) {
		pass(t, l, ticket+1, false)
		turn(t, l, ticket, true)
		pass(t, l, ticket, true)
		pass(t, l, ticket, false)
		waits(t, "Pass", l, many-1-ticket)
	}
	expect(t, "many", l, state{drawn: many, passed: many})
	draw(t, l, many)
	turn(t, l, many, true)
	waits(t, "many, and one", l, 1)
}

// Each lock has its own tickets and its own turn.
func TestTwoLocksAreTheirOwn(t *testing.T) {
	a, b := made(t), made(t)
	for ticket := range uint64(3) {
		draw(t, a, ticket)
	}
	pass(t, a, 0, true)
	expect(t, "the one", a, state{drawn: 3, passed: 1})
	expect(t, "the other one", b, state{})
	pass(t, b, 1, false)
	draw(t, b, 0)
	draw(t, b, 1)
	expect(t, "the one", a, state{drawn: 3, passed: 1})
	expect(t, "the other one", b, state{drawn: 2})
	pass(t, b, 0, true)
	pass(t, b, 1, true)
	expect(t, "one made behind them", made(t), state{})
	finish(t, "the one", a, state{drawn: 3, passed: 1})
	finish(t, "the other one", b, state{drawn: 2, passed: 2})
}

// expectNone holds l against a lock that has no tickets and draws none.
func expectNone(t *testing.T, what string, l *Lock) {
	t.Helper()
	for range 3 {
		draw(t, l, 0)
		for _, ticket := range numbers() {
			turn(t, l, ticket, false)
			pass(t, l, ticket, false)
		}
		waits(t, what, l, 0)
	}
}

func TestNil(t *testing.T) { expectNone(t, "nil", nil) }

// A Lock that New has not made has no tickets, as a nil one.
func TestLockThatNewHasNotMade(t *testing.T) { expectNone(t, "no New", &Lock{}) }

// model is what a lock should be, told by other means: the tickets that wait,
// the one whose turn it is first.
type model struct {
	line []uint64
	next uint64
}

func (m *model) first(ticket uint64) bool { return len(m.line) > 0 && m.line[0] == ticket }

// step does one call of that kind on l and on m, and holds the one against the
// other.
func (m *model) step(t *testing.T, l *Lock, kind int, ticket uint64) {
	t.Helper()
	switch kind {
	case 0:
		draw(t, l, m.next)
		m.line = append(m.line, m.next)
		m.next++
	case 1:
		turn(t, l, ticket, m.first(ticket))
	default:
		first := m.first(ticket)
		pass(t, l, ticket, first)
		if first {
			m.line = m.line[1:]
		}
	}
	waits(t, "a row of calls", l, uint64(len(m.line)))
}

// Long rows of calls on three locks are held against what they should be.
func TestRowsOfCalls(t *testing.T) {
	n := uint64(1)
	pick := func(under int) int {
		n = n*6364136223846793005 + 1442695040888963407
		return int(n>>33) % under
	}
	locks, models := []*Lock{made(t), made(t), made(t)}, make([]model, 3)
	for range 200000 {
		at := pick(len(locks))
		m := &models[at]
		// Around those that wait: some have passed, some are not drawn yet, and
		// below 0 they are those around the greatest number.
		ticket := m.next - uint64(len(m.line)) + uint64(pick(5)) - 2
		m.step(t, locks[at], pick(8), ticket)
	}
	for at, m := range models {
		if m.next < 1000 {
			t.Errorf("only %d draws", m.next)
		}
		finish(t, "behind a row of calls", locks[at], state{drawn: m.next, passed: m.next - uint64(len(m.line))})
	}
}

const (
	workers = 8
	each    = 3000 // calls of a worker
)

// together does a worker's part for all workers at once, and is the tickets
// that they tell, sorted.
func together(part func() []uint64) []uint64 {
	var all sync.WaitGroup
	told := make([][]uint64, workers)
	for worker := range workers {
		all.Go(func() { told[worker] = part() })
	}
	all.Wait()
	return slices.Sorted(slices.Values(slices.Concat(told...)))
}

// Also of goroutines no two draw the same ticket, and each ticket passes once:
// who comes to one first has gone through all those ahead of it.
func TestAtOnce(t *testing.T) {
	l := made(t)
	var want []uint64
	for ticket := range uint64(workers * each) {
		want = append(want, ticket)
	}
	drawn := together(func() (tickets []uint64) {
		for range each {
			tickets = append(tickets, l.Draw())
		}
		return tickets
	})
	if !slices.Equal(drawn, want) {
		t.Error("Draw at once: not each ticket once")
	}
	waits(t, "Draw at once", l, workers*each)
	passed := together(func() (tickets []uint64) {
		for _, ticket := range want {
			if l.Pass(ticket) {
				tickets = append(tickets, ticket)
			}
		}
		return tickets
	})
	if !slices.Equal(passed, want) {
		t.Error("Pass at once: not each ticket once")
	}
	finish(t, "at once", l, state{drawn: workers * each, passed: workers * each})
}
