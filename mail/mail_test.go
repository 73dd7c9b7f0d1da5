package mail

import (
	"math"
	"slices"
	"testing"

	"messuage/api"
)

const (
	greatest = math.MaxUint64
	most     = 8 // cores
)

// numbers are epochs of which some lose their upper bits, their sign or their
// order where they are kept as less than 64 bits, or as numbers with a sign.
func numbers() []uint64 {
	return []uint64{0, 1, 2, 7, 255, 256, 1<<31 - 1, 1 << 31, 1<<32 - 1, 1 << 32, 1<<32 + 1, 1 << 53, 1<<53 + 1, 1<<63 - 1, 1 << 63, 1<<63 + 1, greatest - 1, greatest}
}

// below are numbers that no core has, however many there are.
func below() []int {
	return []int{math.MinInt, math.MinInt + 1, math.MinInt + 2, math.MinInt + 8, -1 << 32, -1<<32 + 1, -256, -255, -9, -8, -7, -3, -2, -1}
}

// beyond are the first one that is not below cores, and some from there on,
// those with them that become a right one when they lose their upper bits.
func beyond(cores int) []int {
	return []int{cores, cores + 1, 2*cores + 1, 64, 255, 256, 257, 1 << 16, 1 << 31, 1 << 32, 1<<32 + 1, 1<<32 + 2, 1 << 60, 1<<60 + 1, 1 << 62, math.MaxInt - 7, math.MaxInt - 1, math.MaxInt}
}

func wrong(cores int) []int { return append(below(), beyond(cores)...) }

// boxes are what each core's box should hold, the least epoch first.
type boxes [][]uint64

func empty(cores int) boxes { return make(boxes, cores) }

// but is bs with another box of that core.
func (bs boxes) but(core int, epochs ...uint64) boxes {
	bs = slices.Clone(bs)
	bs[core] = epochs
	return bs
}

// each are the boxes in which every core of so many has those epochs.
func each(cores int, epochs ...uint64) boxes {
	bs := empty(cores)
	for core := range bs {
		bs[core] = epochs
	}
	return bs
}

func made(t *testing.T, cores int) *Mail {
	t.Helper()
	m := New(cores)
	if m == nil {
		t.Fatalf("New %d: nil", cores)
	}
	return m
}

// filled is a mail whose boxes hold these epochs. There are two cores at least.
func filled(t *testing.T, bs boxes) *Mail {
	t.Helper()
	m := made(t, len(bs))
	for core, epochs := range bs {
		for _, epoch := range epochs {
			send(t, m, (core+1)%len(bs), core, epoch)
		}
	}
	expectWaits(t, "filled", m, bs)
	return m
}

func send(t *testing.T, m *Mail, from, to int, epoch uint64) {
	t.Helper()
	if !m.Send(from, to, epoch) {
		t.Errorf("Send %d, %d, %d: false", from, to, epoch)
	}
}

func sendNot(t *testing.T, m *Mail, from, to int, epoch uint64) {
	t.Helper()
	if m.Send(from, to, epoch) {
		t.Errorf("Send %d, %d, %d: true", from, to, epoch)
	}
}

func all(t *testing.T, m *Mail, from int, epoch uint64, want int) {
	t.Helper()
	if got := m.All(from, epoch); got != want {
		t.Errorf("All %d, %d: %d, not %d", from, epoch, got, want)
	}
}

func take(t *testing.T, m *Mail, core int, want uint64) {
	t.Helper()
	if got, ok := m.Take(core); got != want || !ok {
		t.Errorf("Take %d: %d, %v, not %d", core, got, ok, want)
	}
}

func takeNone(t *testing.T, m *Mail, core int) {
	t.Helper()
	if got, ok := m.Take(core); got != 0 || ok {
		t.Errorf("Take %d: %d, %v, not 0, false", core, got, ok)
	}
}

func waits(t *testing.T, what string, m *Mail, core, want int) {
	t.Helper()
	if got := m.Waits(core); got != want {
		t.Errorf("%s: Waits %d: %d, not %d", what, core, got, want)
	}
}

// expectWaits holds how many epochs there are in each box against bs, the
// first cores beyond with them.
func expectWaits(t *testing.T, what string, m *Mail, bs boxes) {
	t.Helper()
	for core, epochs := range bs {
		waits(t, what, m, core, len(epochs))
	}
	waits(t, what, m, -1, 0)
	waits(t, what, m, len(bs), 0)
}

// expect takes all epochs out of m, the last core's first, and holds them
// against bs, with all that Waits tells on the way.
func expect(t *testing.T, what string, m *Mail, bs boxes) {
	t.Helper()
	expectWaits(t, what, m, bs)
	for core, epochs := range slices.Backward(bs) {
		for n, want := range epochs {
			if got, ok := m.Take(core); got != want || !ok {
				t.Errorf("%s: Take %d: %d, %v, not %d", what, core, got, ok, want)
			}
			waits(t, what, m, core, len(epochs)-n-1)
		}
		takeNone(t, m, core)
		bs = bs.but(core)
		expectWaits(t, what, m, bs)
	}
}

func TestLimit(t *testing.T) {
	if api.MaxCores != most {
		t.Errorf("api.MaxCores: %d", api.MaxCores)
	}
}

func TestNew(t *testing.T) {
	for cores := 1; cores <= most; cores++ {
		expect(t, "New", made(t, cores), empty(cores))
	}
}

// Of each number of cores there are those from 0 on, and no others.
func TestNewHasSoManyCores(t *testing.T) {
	for cores := 2; cores <= most; cores++ {
		m := made(t, cores)
		for core := range cores {
			send(t, m, core, (core+1)%cores, 7)
		}
		sendNot(t, m, cores-1, cores, 7)
		sendNot(t, m, cores, cores-1, 7)
		expect(t, "New", m, each(cores, 7))
	}
}

func TestNewOfNoRightNumber(t *testing.T) {
	for _, cores := range append(wrong(most+1), 0) {
		if New(cores) != nil {
			t.Errorf("New %d: not nil", cores)
		}
	}
}

func TestNewIsNewMemory(t *testing.T) {
	a, b := made(t, 3), made(t, 3)
	send(t, a, 0, 1, 5)
	all(t, a, 1, 6, 2)
	expect(t, "the other one", b, empty(3))
	expect(t, "one made behind it", made(t, 3), empty(3))
	expect(t, "the one", a, boxes{{6}, {5}, {6}})
}

// What is taken of one stays in the other.
func TestTwoMailsAreTheirOwn(t *testing.T) {
	a, b := filled(t, each(2, 3, 4)), filled(t, each(2, 3, 4))
	take(t, a, 0, 3)
	take(t, a, 0, 4)
	send(t, a, 1, 0, 1)
	expect(t, "the other one", b, each(2, 3, 4))
	expect(t, "the one", a, boxes{{1}, {3, 4}})
}

// From each core to each other one, of each number of cores.
func TestSend(t *testing.T) {
	for cores := 2; cores <= most; cores++ {
		for from := range cores {
			for to := range cores {
				if from == to {
					continue
				}
				m := made(t, cores)
				send(t, m, from, to, 9)
				expect(t, "Send", m, empty(cores).but(to, 9))
			}
		}
	}
}

func TestSendOfEachEpoch(t *testing.T) {
	for _, epoch := range numbers() {
		m := made(t, 2)
		send(t, m, 0, 1, epoch)
		expect(t, "Send", m, empty(2).but(1, epoch))
	}
}

func TestSendToOneself(t *testing.T) {
	for cores := 1; cores <= most; cores++ {
		m := made(t, cores)
		for core := range cores {
			for _, epoch := range numbers() {
				sendNot(t, m, core, core, epoch)
			}
		}
		expect(t, "Send to oneself", m, empty(cores))
	}
}

// A box that holds the epoch, since another sent it, is none to send it to
// from its own core.
func TestSendToOneselfOfWhatIsThere(t *testing.T) {
	m := filled(t, each(3, 4))
	for core := range 3 {
		sendNot(t, m, core, core, 4)
		sendNot(t, m, core, core, 3)
	}
	expect(t, "Send to oneself", m, each(3, 4))
}

func TestSendWithNoSuchCore(t *testing.T) {
	for cores := 1; cores <= most; cores++ {
		bs := each(cores, 2, 6)
		if cores == 1 {
			bs = empty(1)
		}
		m := filled(t, bs)
		for _, n := range wrong(cores) {
			for core := range cores {
				sendNot(t, m, n, core, 5)
				sendNot(t, m, core, n, 5)
				sendNot(t, m, n, core, 6)
				sendNot(t, m, core, n, 6)
			}
			for _, other := range wrong(cores) {
				sendNot(t, m, n, other, 5)
			}
		}
		expect(t, "Send with no such core", m, bs)
	}
}

// An epoch that the box holds already, whoever sends it, stays there once.
func TestSendOfWhatIsThere(t *testing.T) {
	for _, epoch := range numbers() {
		m := made(t, 3)
		for range 3 {
			send(t, m, 0, 1, epoch)
			send(t, m, 2, 1, epoch)
			waits(t, "Send again", m, 1, 1)
		}
		expect(t, "Send again", m, empty(3).but(1, epoch))
	}
}

// The least, one amidst and the greatest of many.
func TestSendOfWhatIsThereAmongMany(t *testing.T) {
	for _, epoch := range numbers() {
		m := filled(t, each(2, numbers()...))
		send(t, m, 0, 1, epoch)
		send(t, m, 0, 1, epoch)
		expect(t, "Send again", m, each(2, numbers()...))
	}
}

// All of them again, when some were taken: those that are left stay once.
func TestSendOfWhatIsLeft(t *testing.T) {
	for taken := range numbers() {
		m := filled(t, empty(2).but(1, numbers()...))
		for _, epoch := range numbers()[:taken] {
			take(t, m, 1, epoch)
		}
		for _, epoch := range numbers()[taken:] {
			send(t, m, 0, 1, epoch)
		}
		expect(t, "Send of what is left", m, empty(2).but(1, numbers()[taken:]...))
	}
}

// An epoch that was taken is none that the box holds.
func TestSendOfWhatWasTaken(t *testing.T) {
	for _, epoch := range numbers() {
		m := made(t, 2)
		for range 3 {
			send(t, m, 1, 0, epoch)
			waits(t, "Send", m, 0, 1)
			take(t, m, 0, epoch)
			waits(t, "Take", m, 0, 0)
		}
		send(t, m, 1, 0, epoch)
		send(t, m, 1, 0, epoch)
		expect(t, "Send of what was taken", m, empty(2).but(0, epoch))
	}
}

func TestSendOfWhatWasTakenAmongMany(t *testing.T) {
	m := filled(t, empty(2).but(0, 3, 5, 8))
	take(t, m, 0, 3)
	take(t, m, 0, 5)
	send(t, m, 1, 0, 5)
	waits(t, "Send", m, 0, 2)
	send(t, m, 1, 0, 3)
	send(t, m, 1, 0, 5)
	expect(t, "Send of what was taken", m, empty(2).but(0, 3, 5, 8))
}

// An epoch less than one that was taken may come later.
func TestSendOfLessThanWasTaken(t *testing.T) {
	m := filled(t, empty(2).but(0, 8))
	take(t, m, 0, 8)
	send(t, m, 1, 0, 2)
	send(t, m, 1, 0, 0)
	expect(t, "Send of less", m, empty(2).but(0, 0, 2))
}

// From each core of each number of cores: of one, to none.
func TestAll(t *testing.T) {
	for cores := 1; cores <= most; cores++ {
		for from := range cores {
			m := made(t, cores)
			all(t, m, from, 6, cores-1)
			expect(t, "All", m, each(cores, 6).but(from))
		}
	}
}

func TestAllOfEachEpoch(t *testing.T) {
	for _, epoch := range numbers() {
		m := made(t, 3)
		all(t, m, 1, epoch, 2)
		expect(t, "All", m, each(3, epoch).but(1))
	}
}

// All cores one behind the other: the box of each then holds what the others
// sent.
func TestAllFromAll(t *testing.T) {
	for _, cores := range []int{1, 2, 8} {
		m, want := made(t, cores), empty(cores)
		for from := range cores {
			all(t, m, from, uint64(from), cores-1)
			for to := range cores {
				if to != from {
					want = want.but(to, append(slices.Clone(want[to]), uint64(from))...)
				}
			}
		}
		expect(t, "All", m, want)
	}
}

// It tells how many other cores there are, whatever their boxes hold.
func TestAllOfWhatIsThere(t *testing.T) {
	m := filled(t, boxes{{4}, {2, 4, 9}, {3, 5}, {}, {4}})
	all(t, m, 0, 4, 4)
	expect(t, "some hold it", m, boxes{{4}, {2, 4, 9}, {3, 4, 5}, {4}, {4}})
	m = filled(t, boxes{{}, {4}, {4}, {4}, {4}})
	all(t, m, 0, 4, 4)
	expect(t, "all others hold it", m, boxes{{}, {4}, {4}, {4}, {4}})
	m = made(t, 8)
	for range 3 {
		all(t, m, 7, 4, 7)
	}
	expect(t, "again", m, each(8, 4).but(7))
}

// The sender's own box stays as it is, be that epoch there or not.
func TestAllKeepsTheSendersBox(t *testing.T) {
	m := filled(t, each(3, 4, 7))
	all(t, m, 2, 4, 2)
	all(t, m, 2, 5, 2)
	expect(t, "All", m, each(3, 4, 5, 7).but(2, 4, 7))
}

func TestAllOfWhatWasTaken(t *testing.T) {
	m := filled(t, each(3, 4))
	take(t, m, 1, 4)
	all(t, m, 0, 4, 2)
	expect(t, "All", m, each(3, 4))
}

func TestAllFromNoSuchCore(t *testing.T) {
	for cores := 1; cores <= most; cores++ {
		bs := each(cores, 2, 6)
		if cores == 1 {
			bs = empty(1)
		}
		m := filled(t, bs)
		for _, n := range wrong(cores) {
			all(t, m, n, 6, 0)
			all(t, m, n, 5, 0)
			all(t, m, n, 0, 0)
		}
		expect(t, "All from no such core", m, bs)
	}
}

// The least epoch, in whatever order five of them were sent.
func TestTakeInAllOrders(t *testing.T) {
	epochs := []uint64{0, 3, 4, 1 << 63, greatest}
	n := 0
	orders(epochs, func(order []uint64) {
		n++
		m := made(t, 2)
		for i, epoch := range order {
			send(t, m, 0, 1, epoch)
			waits(t, "Send", m, 1, i+1)
		}
		expect(t, "Take", m, empty(2).but(1, epochs...))
	})
	if n != 120 {
		t.Errorf("%d orders", n)
	}
}

// orders shows all orders of epochs.
func orders(epochs []uint64, show func(order []uint64)) {
	var from func(order []uint64, at int)
	from = func(order []uint64, at int) {
		if at == len(order) {
			show(order)
			return
		}
		for i := at; i < len(order); i++ {
			order[at], order[i] = order[i], order[at]
			from(order, at+1)
			order[at], order[i] = order[i], order[at]
		}
	}
	from(slices.Clone(epochs), 0)
}

// What comes between two Takes counts for the later one.
func TestTakeBetweenSends(t *testing.T) {
	m := filled(t, empty(2).but(1, 5, 9))
	take(t, m, 1, 5)
	send(t, m, 0, 1, 7)
	send(t, m, 0, 1, 6)
	take(t, m, 1, 6)
	send(t, m, 0, 1, 10)
	take(t, m, 1, 7)
	send(t, m, 0, 1, 1)
	take(t, m, 1, 1)
	expect(t, "Take", m, empty(2).but(1, 9, 10))
}

func TestTakeOfAnEmptyBox(t *testing.T) {
	for cores := 1; cores <= most; cores++ {
		m := made(t, cores)
		for core := range cores {
			takeNone(t, m, core)
			takeNone(t, m, core)
			waits(t, "Take", m, core, 0)
		}
		expect(t, "Take of empty boxes", m, empty(cores))
	}
}

// A box that became empty, and one beside others that are not.
func TestTakeOfABoxThatBecameEmpty(t *testing.T) {
	m := filled(t, boxes{{1}, {2}, {3, 4}})
	take(t, m, 1, 2)
	takeNone(t, m, 1)
	takeNone(t, m, 1)
	send(t, m, 0, 1, 6)
	expect(t, "Take", m, boxes{{1}, {6}, {3, 4}})
}

// The epoch 0 is one, not none.
func TestTakeOfZero(t *testing.T) {
	m := filled(t, empty(2).but(0, 0, greatest))
	take(t, m, 0, 0)
	waits(t, "Take", m, 0, 1)
	take(t, m, 0, greatest)
	takeNone(t, m, 0)
}

func TestTakeOfNoSuchCore(t *testing.T) {
	for cores := 1; cores <= most; cores++ {
		bs := each(cores, 2, 6)
		if cores == 1 {
			bs = empty(1)
		}
		m := filled(t, bs)
		for _, n := range wrong(cores) {
			takeNone(t, m, n)
		}
		expect(t, "Take of no such core", m, bs)
	}
}

// Each core's box is its own: what it holds, and what is taken of it.
func TestBoxesAreTheirOwn(t *testing.T) {
	bs := empty(8)
	for core := range bs {
		bs[core] = numbers()[core : core+2+core%3]
	}
	for core, epochs := range bs {
		m := filled(t, bs)
		for range 2 {
			take(t, m, core, epochs[0])
			send(t, m, (core+7)%8, core, epochs[0])
		}
		take(t, m, core, epochs[0])
		expect(t, "Take of one box", m, bs.but(core, epochs[1:]...))
	}
}

// One epoch in all boxes, that is taken of one.
func TestSameEpochInUnlikeBoxes(t *testing.T) {
	m := filled(t, each(8, 5))
	take(t, m, 3, 5)
	takeNone(t, m, 3)
	expect(t, "Take of one box", m, each(8, 5).but(3))
}

func TestWaits(t *testing.T) {
	m := made(t, 2)
	for i, epoch := range numbers() {
		waits(t, "ahead of Send", m, 1, i)
		send(t, m, 0, 1, epoch)
		send(t, m, 0, 1, epoch)
		waits(t, "behind Send", m, 1, i+1)
		waits(t, "the other one", m, 0, 0)
	}
	for left := len(numbers()); left > 0; left-- {
		waits(t, "ahead of Take", m, 1, left)
		m.Take(1)
		waits(t, "behind Take", m, 1, left-1)
	}
	takeNone(t, m, 1)
	waits(t, "behind a Take of none", m, 1, 0)
	all(t, m, 0, 3, 1)
	waits(t, "behind All", m, 1, 1)
}

func TestWaitsOfNoSuchCore(t *testing.T) {
	for cores := 2; cores <= most; cores++ {
		m := filled(t, each(cores, 2, 6))
		for _, n := range wrong(cores) {
			waits(t, "no such core", m, n, 0)
		}
	}
}

func TestAskingChangesNothing(t *testing.T) {
	m := filled(t, boxes{{3}, {}, {1, 2}})
	for range 3 {
		expectWaits(t, "asked", m, boxes{{3}, {}, {1, 2}})
	}
	expect(t, "asked", m, boxes{{3}, {}, {1, 2}})
}

// mixed are the numbers below many, each once, in another order: seven steps
// on each time, of a number that 7 has no part in.
func mixed(many int) []uint64 {
	var epochs []uint64
	for n := range many {
		epochs = append(epochs, uint64(n*7%many))
	}
	return epochs
}

// Many epochs in one box: rising, falling, and mixed, each sent twice.
func TestManyEpochs(t *testing.T) {
	const many = 50000
	rising := mixed(many)
	slices.Sort(rising)
	if len(slices.Compact(slices.Clone(rising))) != many {
		t.Fatal("mixed: not all of them")
	}
	falling := slices.Clone(rising)
	slices.Reverse(falling)
	for _, order := range [][]uint64{rising, falling, mixed(many)} {
		m := made(t, 2)
		for i, epoch := range order {
			send(t, m, 0, 1, epoch)
			waits(t, "Send", m, 1, i+1)
		}
		for _, epoch := range order {
			send(t, m, 0, 1, epoch)
		}
		expect(t, "many", m, empty(2).but(1, rising...))
	}
}

func TestNil(t *testing.T) {
	var m *Mail
	for _, n := range append(wrong(most), 0, 1, 2, 7) {
		for _, to := range append(wrong(most), 0, 1, 2, 7) {
			sendNot(t, m, n, to, 1)
		}
		for _, epoch := range numbers() {
			sendNot(t, m, n, 1, epoch)
			all(t, m, n, epoch, 0)
		}
		takeNone(t, m, n)
		waits(t, "nil", m, n, 0)
	}
}

// A Mail that New has not made has no cores.
func TestMailWithoutCores(t *testing.T) {
	m := &Mail{}
	sendNot(t, m, 0, 1, 1)
	all(t, m, 0, 1, 0)
	takeNone(t, m, 0)
	expectWaits(t, "no cores", m, empty(0))
}

// send is what a box should be behind a Send: its epochs and that one, once.
func (bs boxes) send(to int, epoch uint64) {
	if at, ok := slices.BinarySearch(bs[to], epoch); !ok {
		bs[to] = slices.Insert(bs[to], at, epoch)
	}
}

func (bs boxes) take(core int) (uint64, bool) {
	if len(bs[core]) == 0 {
		return 0, false
	}
	least := bs[core][0]
	bs[core] = bs[core][1:]
	return least, true
}

// Long rows of calls are held against what the boxes should be.
func TestRowsOfCalls(t *testing.T) {
	n := uint64(1)
	draw := func(under int) int {
		n = n*6364136223846793005 + 1442695040888963407
		return int(n>>33) % under
	}
	for _, cores := range []int{2, 3, 8} {
		m, bs := made(t, cores), empty(cores)
		for range 40000 {
			// The first and the last ones beyond are among them.
			core, other := draw(cores+2)-1, draw(cores+2)-1
			epoch := uint64(draw(30))
			there := core >= 0 && core < cores
			switch kind := draw(10); {
			case kind < 6:
				want := there && other >= 0 && other < cores && core != other
				if want {
					bs.send(other, epoch)
				}
				if m.Send(core, other, epoch) != want {
					t.Fatalf("Send %d, %d, %d: not %v", core, other, epoch, want)
				}
			case kind < 7:
				want := 0
				for to := range cores {
					if there && to != core {
						bs.send(to, epoch)
						want++
					}
				}
				all(t, m, core, epoch, want)
			case there:
				want, ok := bs.take(core)
				if got, gotOk := m.Take(core); got != want || gotOk != ok {
					t.Fatalf("Take %d: %d, %v, not %d, %v", core, got, gotOk, want, ok)
				}
			default:
				takeNone(t, m, core)
			}
			expectWaits(t, "a row of calls", m, bs)
		}
		expect(t, "behind a row of calls", m, bs)
	}
}
