package cell

import (
	"math"
	"sync"
	"testing"
)

const greatest = math.MaxUint64

// numbers are words of which some lose their upper bits, their sign or their
// order where they are kept as less than 64 bits, or as numbers with a sign.
func numbers() []uint64 {
	return []uint64{0, 1, 2, 7, 255, 256, 1<<31 - 1, 1 << 31, 1<<32 - 1, 1 << 32, 1<<32 + 1, 1 << 53, 1<<53 + 1, 1<<63 - 1, 1 << 63, 1<<63 + 1, greatest - 1, greatest}
}

func steps(t *testing.T, what string, c *Cell, want int) {
	t.Helper()
	if got := c.Steps(); got != want {
		t.Errorf("%s: Steps: %d, not %d", what, got, want)
	}
}

func load(t *testing.T, what string, c *Cell, want uint64) {
	t.Helper()
	if got := c.Load(); got != want {
		t.Errorf("%s: Load: %d, not %d", what, got, want)
	}
}

// expect holds what c tells of itself against v and done. The Load of it is a
// step, and it is the only one.
func expect(t *testing.T, what string, c *Cell, v uint64, done int) {
	t.Helper()
	steps(t, what, c, done)
	load(t, what, c, v)
	steps(t, what+", and Load", c, done+1)
}

func cas(t *testing.T, c *Cell, old, new uint64, want bool) {
	t.Helper()
	if got := c.Cas(old, new); got != want {
		t.Errorf("Cas %d, %d: %v", old, new, got)
	}
}

func up(t *testing.T, c *Cell, most, want uint64, wantOk bool) {
	t.Helper()
	if got, ok := c.Up(most); got != want || ok != wantOk {
		t.Errorf("Up %d: %d, %v, not %d, %v", most, got, ok, want, wantOk)
	}
}

func down(t *testing.T, c *Cell, want uint64, wantOk bool) {
	t.Helper()
	if got, ok := c.Down(); got != want || ok != wantOk {
		t.Errorf("Down: %d, %v, not %d, %v", got, ok, want, wantOk)
	}
}

func TestNew(t *testing.T) {
	for _, v := range numbers() {
		if New(v) == nil {
			t.Fatalf("New %d: nil", v)
		}
		expect(t, "New", New(v), v, 0)
	}
}

// A Cell that New has not made has 0 in it.
func TestCellThatNewHasNotMade(t *testing.T) {
	expect(t, "no New", &Cell{}, 0, 0)
	c := &Cell{}
	down(t, c, 0, false)
	up(t, c, 1, 1, true)
	expect(t, "no New", c, 1, 2)
}

func TestLoad(t *testing.T) {
	for _, v := range numbers() {
		c := New(v)
		for n := range 5 {
			expect(t, "Load again", c, v, n)
		}
	}
}

// Of each number in a cell of each.
func TestStore(t *testing.T) {
	for _, was := range numbers() {
		for _, v := range numbers() {
			c := New(was)
			c.Store(v)
			expect(t, "Store", c, v, 1)
		}
	}
}

// The last one counts.
func TestStoreAgain(t *testing.T) {
	c := New(9)
	for n, v := range numbers() {
		c.Store(v)
		steps(t, "Store", c, n+1)
	}
	expect(t, "Store", c, greatest, len(numbers()))
	c.Store(0)
	c.Store(0)
	expect(t, "Store", c, 0, len(numbers())+3)
}

// From each number to each, itself with them.
func TestCasOfWhatIsThere(t *testing.T) {
	for _, old := range numbers() {
		for _, new := range numbers() {
			c := New(old)
			cas(t, c, old, new, true)
			expect(t, "Cas", c, new, 1)
		}
	}
}

func TestCasOfWhatIsNotThere(t *testing.T) {
	for _, is := range numbers() {
		for _, old := range numbers() {
			if old == is {
				continue
			}
			c := New(is)
			cas(t, c, old, 5, false)
			expect(t, "Cas to another", c, is, 1)
			cas(t, c, old, old, false)
			expect(t, "Cas to the old one", c, is, 3)
			// That the new one is there already is no matter.
			cas(t, c, old, is, false)
			expect(t, "Cas to what is there", c, is, 5)
		}
	}
}

// What was there, and is not any more.
func TestCasAgain(t *testing.T) {
	c := New(3)
	cas(t, c, 3, 5, true)
	cas(t, c, 3, 5, false)
	cas(t, c, 3, 6, false)
	expect(t, "Cas again", c, 5, 3)
	cas(t, c, 5, 3, true)
	cas(t, c, 3, 5, true)
	expect(t, "Cas there and back", c, 5, 6)
}

// With the new one equal to the old one it may come again and again.
func TestCasToTheSame(t *testing.T) {
	for _, v := range numbers() {
		c := New(v)
		for n := range 3 {
			cas(t, c, v, v, true)
			steps(t, "Cas to the same", c, n+1)
		}
		expect(t, "Cas to the same", c, v, 3)
	}
}

// Cas asks what is there by now, whichever call put it there.
func TestCasBehindOthers(t *testing.T) {
	c := New(1)
	c.Store(8)
	cas(t, c, 1, 2, false)
	cas(t, c, 8, 4, true)
	up(t, c, 9, 5, true)
	cas(t, c, 4, 2, false)
	cas(t, c, 5, 7, true)
	down(t, c, 6, true)
	cas(t, c, 7, 2, false)
	cas(t, c, 6, 2, true)
	expect(t, "Cas", c, 2, 9)
}

// Each number with each most: below it, at it, above it.
func TestUp(t *testing.T) {
	for _, v := range numbers() {
		for _, most := range numbers() {
			c := New(v)
			if v < most {
				up(t, c, most, v+1, true)
				expect(t, "Up", c, v+1, 1)
				continue
			}
			up(t, c, most, v, false)
			expect(t, "Up", c, v, 1)
		}
	}
}

// Just around each most that has something around it.
func TestUpAroundTheMost(t *testing.T) {
	for _, most := range numbers()[2 : len(numbers())-1] {
		c := New(most - 2)
		up(t, c, most, most-1, true)
		up(t, c, most, most, true)
		up(t, c, most, most, false)
		up(t, c, most, most, false)
		expect(t, "at the most", c, most, 4)
		c.Store(most + 1)
		up(t, c, most, most+1, false)
		expect(t, "above the most", c, most+1, 7)
	}
}

func TestUpToNought(t *testing.T) {
	for _, v := range numbers() {
		c := New(v)
		up(t, c, 0, v, false)
		up(t, c, 0, v, false)
		expect(t, "Up 0", c, v, 2)
	}
}

func TestUpToOne(t *testing.T) {
	c := New(0)
	up(t, c, 1, 1, true)
	expect(t, "Up 1", c, 1, 1)
	up(t, c, 1, 1, false)
	expect(t, "Up 1 again", c, 1, 3)
	c = New(2)
	up(t, c, 1, 2, false)
	expect(t, "Up 1 above it", c, 2, 1)
}

// The greatest number is never passed, so that it does not wrap.
func TestUpToTheGreatest(t *testing.T) {
	c := New(greatest - 2)
	up(t, c, greatest, greatest-1, true)
	up(t, c, greatest, greatest, true)
	up(t, c, greatest, greatest, false)
	up(t, c, greatest, greatest, false)
	expect(t, "Up", c, greatest, 4)
	for _, most := range numbers() {
		up(t, c, most, greatest, false)
	}
	expect(t, "Up", c, greatest, 5+len(numbers()))
}

// Each Up goes by its own most, not by one that came ahead of it.
func TestUpWithAnotherMost(t *testing.T) {
	c := New(3)
	up(t, c, 4, 4, true)
	up(t, c, 4, 4, false)
	up(t, c, 6, 5, true)
	up(t, c, 4, 5, false)
	up(t, c, 5, 5, false)
	up(t, c, 6, 6, true)
	up(t, c, 0, 6, false)
	up(t, c, greatest, 7, true)
	expect(t, "Up", c, 7, 8)
}

func TestDown(t *testing.T) {
	for _, v := range numbers() {
		c := New(v)
		if v == 0 {
			down(t, c, 0, false)
			expect(t, "Down", c, 0, 1)
			continue
		}
		down(t, c, v-1, true)
		expect(t, "Down", c, v-1, 1)
	}
}

func TestDownToNought(t *testing.T) {
	c := New(2)
	down(t, c, 1, true)
	expect(t, "Down", c, 1, 1)
	down(t, c, 0, true)
	expect(t, "Down", c, 0, 3)
	down(t, c, 0, false)
	expect(t, "Down at 0", c, 0, 5)
	down(t, c, 0, false)
	expect(t, "Down at 0 again", c, 0, 7)
}

// A Down that did nothing is not made good by what comes behind it.
func TestUpBehindDownAtNought(t *testing.T) {
	for _, most := range []uint64{1, 2, greatest} {
		c := New(0)
		down(t, c, 0, false)
		down(t, c, 0, false)
		up(t, c, most, 1, true)
		expect(t, "Up behind Down", c, 1, 3)
	}
	c := New(0)
	down(t, c, 0, false)
	up(t, c, 0, 0, false)
	down(t, c, 0, false)
	expect(t, "Up 0 behind Down", c, 0, 3)
}

// Nor is an Up that did nothing.
func TestDownBehindUpAtTheMost(t *testing.T) {
	for _, most := range numbers()[1:] {
		c := New(most)
		up(t, c, most, most, false)
		up(t, c, most, most, false)
		down(t, c, most-1, true)
		expect(t, "Down behind Up", c, most-1, 3)
		up(t, c, most, most, true)
		expect(t, "and Up again", c, most, 5)
	}
	c := New(0)
	up(t, c, 0, 0, false)
	down(t, c, 0, false)
	expect(t, "Down behind Up 0", c, 0, 2)
}

func TestUpAndDownByTurns(t *testing.T) {
	c := New(0)
	for n := range uint64(300) {
		up(t, c, 300, n+1, true)
	}
	up(t, c, 300, 300, false)
	for n := range uint64(300) {
		down(t, c, 299-n, true)
	}
	down(t, c, 0, false)
	expect(t, "there and back", c, 0, 602)
}

// Up and Down go by what a Store or a Cas put there.
func TestUpAndDownBehindOthers(t *testing.T) {
	c := New(0)
	c.Store(1 << 40)
	up(t, c, 1<<40, 1<<40, false)
	down(t, c, 1<<40-1, true)
	up(t, c, 1<<40, 1<<40, true)
	cas(t, c, 1<<40, 1, true)
	down(t, c, 0, true)
	down(t, c, 0, false)
	c.Store(6)
	down(t, c, 5, true)
	expect(t, "behind others", c, 5, 9)
}

// Each kind of call is one step, whatever came of it.
func TestSteps(t *testing.T) {
	for _, x := range []struct {
		what string
		call func(c *Cell)
	}{
		{"Load", func(c *Cell) { load(t, "Load", c, 4) }},
		{"Store", func(c *Cell) { c.Store(7) }},
		{"Store of what is there", func(c *Cell) { c.Store(4) }},
		{"Cas that was", func(c *Cell) { cas(t, c, 4, 7, true) }},
		{"Cas to the same", func(c *Cell) { cas(t, c, 4, 4, true) }},
		{"Cas that was not", func(c *Cell) { cas(t, c, 7, 8, false) }},
		{"Up that did", func(c *Cell) { up(t, c, 5, 5, true) }},
		{"Up at the most", func(c *Cell) { up(t, c, 4, 4, false) }},
		{"Up above the most", func(c *Cell) { up(t, c, 0, 4, false) }},
		{"Down that did", func(c *Cell) { down(t, c, 3, true) }},
	} {
		c := New(4)
		steps(t, "New", c, 0)
		x.call(c)
		steps(t, x.what, c, 1)
		c.Store(4)
		x.call(c)
		steps(t, x.what+" again", c, 3)
	}
	c := New(0)
	for n := range 3 {
		down(t, c, 0, false)
		steps(t, "Down at 0", c, n+1)
	}
}

// Steps is no step, and changes nothing.
func TestStepsIsNoStep(t *testing.T) {
	c := New(4)
	for range 100 {
		steps(t, "New", c, 0)
	}
	c.Store(6)
	for range 100 {
		steps(t, "Store", c, 1)
	}
	expect(t, "Steps", c, 6, 1)
}

// A Store, whatever it puts there, does not begin the steps anew.
func TestStoreKeepsTheSteps(t *testing.T) {
	c := New(4)
	up(t, c, 9, 5, true)
	down(t, c, 4, true)
	c.Store(0)
	c.Store(4)
	cas(t, c, 4, 0, true)
	expect(t, "Store", c, 0, 5)
}

// Each cell has its own value and its own steps, be they alike at first or not.
func TestTwoCellsAreTheirOwn(t *testing.T) {
	for _, v := range []uint64{3, 9} {
		a, b := New(3), New(v)
		a.Store(5)
		cas(t, a, 5, 6, true)
		up(t, a, 9, 7, true)
		up(t, a, 9, 8, true)
		down(t, a, 7, true)
		load(t, "the one", a, 7)
		expect(t, "the other one", b, v, 0)
		b.Store(1)
		down(t, b, 0, true)
		expect(t, "the one", a, 7, 6)
		expect(t, "the other one", b, 0, 3)
		expect(t, "one made behind them", New(3), 3, 0)
	}
}

func TestNil(t *testing.T) {
	var c *Cell
	for range 2 {
		for _, v := range numbers() {
			c.Store(v)
			load(t, "nil", c, 0)
			cas(t, c, v, v, false)
			cas(t, c, 0, v, false)
			cas(t, c, v, 0, false)
			up(t, c, v, 0, false)
			down(t, c, 0, false)
			steps(t, "nil", c, 0)
		}
	}
}

// model is what a cell should be.
type model struct {
	value uint64
	steps int
}

// step does one call of that kind on c, and on m by other means, and holds the
// one against the other.
func (m *model) step(t *testing.T, c *Cell, kind int, a, b uint64) {
	t.Helper()
	was := m.value
	m.steps++
	switch kind {
	case 0:
		load(t, "a row of calls", c, was)
	case 1:
		m.value = a
		c.Store(a)
	case 2:
		if was == a {
			m.value = b
		}
		cas(t, c, a, b, was == a)
	case 3:
		if was < a {
			m.value = was + 1
		}
		up(t, c, a, m.value, was < a)
	default:
		if was > 0 {
			m.value = was - 1
		}
		down(t, c, m.value, was > 0)
	}
	steps(t, "a row of calls", c, m.steps)
}

// Long rows of calls on three cells are held against what they should be.
func TestRowsOfCalls(t *testing.T) {
	n := uint64(1)
	draw := func(under int) int {
		n = n*6364136223846793005 + 1442695040888963407
		return int(n>>33) % under
	}
	// Some around 0, some around the greatest.
	word := func() uint64 { return uint64(draw(12)) - 4 }
	var cells []*Cell
	var models []model
	for _, v := range []uint64{0, 3, greatest} {
		cells = append(cells, New(v))
		models = append(models, model{value: v})
	}
	for range 100000 {
		at := draw(len(cells))
		models[at].step(t, cells[at], draw(5), word(), word())
		if t.Failed() {
			break
		}
	}
	for at, m := range models {
		expect(t, "behind a row of calls", cells[at], m.value, m.steps)
	}
}

const (
	workers = 8
	each    = 5000 // rounds of a worker
)

// together does the rounds of all workers at once.
func together(round func()) {
	var all sync.WaitGroup
	for range workers {
		all.Go(func() {
			for range each {
				round()
			}
		})
	}
	all.Wait()
}

// No step gets lost among those of others, and none comes amidst another.
func TestUpAtOnce(t *testing.T) {
	c := New(0)
	together(func() { c.Up(greatest) })
	expect(t, "Up at once", c, workers*each, workers*each)
	together(func() { c.Down() })
	expect(t, "Down at once", c, 0, 2*workers*each+1)
}

// Of all the Ups just so many do something as there are to the most.
func TestUpToTheMostAtOnce(t *testing.T) {
	c, did := New(0), New(0)
	together(func() {
		if _, ok := c.Up(each); ok {
			did.Up(greatest)
		}
	})
	expect(t, "the cell", c, each, workers*each)
	expect(t, "those that did", did, each, each)
}

// Each Cas that was makes it one more, and none of those is lost.
func TestCasAtOnce(t *testing.T) {
	c, did := New(0), New(0)
	together(func() {
		if v := c.Load(); c.Cas(v, v+1) {
			did.Up(greatest)
		}
	})
	if did.Load() == 0 {
		t.Error("Cas at once: none was")
	}
	expect(t, "Cas at once", c, did.Load(), 2*workers*each)
}
