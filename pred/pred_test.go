package pred

import (
	"math"
	"testing"

	"messuage/api"
)

const greatest = math.MaxUint64

func operators() []int {
	return []int{api.PEqual, api.PNot, api.PLess, api.PMore}
}

// wrongOperators are numbers that are no operators, those with them that become
// operators when they lose their upper bits or their sign.
func wrongOperators() []int {
	return []int{
		math.MinInt, math.MinInt + 1, math.MinInt + 2, math.MinInt + 3, math.MinInt + 4, -1 << 32, -1<<32 + 1, -1<<32 + 4, -256, -255, -252, -5, -4, -3, -2, -1,
		0, 5, 6, 7, 8, 9, 12, 16, 17, 255, 256, 257, 260, 1<<16 + 1, 1<<16 + 4, 1 << 31, 1<<31 + 3, 1 << 32, 1<<32 + 1, 1<<32 + 2, 1<<32 + 3, 1<<32 + 4, 1<<62 + 1, math.MaxInt - 1, math.MaxInt,
	}
}

// words are, rising, words of which some lose their upper bits, their sign or
// their order where they are compared as less than 64 bits, as numbers with a
// sign, as floats, or by their difference.
func words() []uint64 {
	return []uint64{
		0, 1, 2, 3, 4, 5, 6, 7, 255, 256, 257, 1<<16 - 1, 1 << 16, 1<<31 - 1, 1 << 31, 1<<31 + 1, 1<<32 - 1, 1 << 32, 1<<32 + 1, 1 << 53, 1<<53 + 1, 1 << 62,
		1<<63 - 2, 1<<63 - 1, 1 << 63, 1<<63 + 1, 1<<63 + 2, 1<<63 + 1<<32, greatest - 1<<32, greatest - 2, greatest - 1, greatest,
	}
}

// order is how a word stands to a value.
type order int

const (
	less order = iota - 1
	same
	more
)

// wants tells by a table whether op holds where a word stands to a value so.
func wants(op int, o order) bool {
	return map[int][3]bool{
		api.PEqual: {false, true, false},
		api.PNot:   {true, false, true},
		api.PLess:  {true, false, false},
		api.PMore:  {false, false, true},
	}[op][o+1]
}

func holds(t *testing.T, op int, word, value uint64, want bool) {
	t.Helper()
	if got := Holds(op, word, value); got != want {
		t.Errorf("Holds %d, %d, %d: %v", op, word, value, got)
	}
}

// stands asks all operators of a word that stands so to a value.
func stands(t *testing.T, word, value uint64, o order) {
	t.Helper()
	for _, op := range operators() {
		holds(t, op, word, value, wants(op, o))
	}
}

func turn(t *testing.T, op, want int, wantOk bool) {
	t.Helper()
	if got, ok := Turn(op); got != want || ok != wantOk {
		t.Errorf("Turn %d: %d, %v, not %d, %v", op, got, ok, want, wantOk)
	}
}

func TestNumbers(t *testing.T) {
	if api.PEqual != 1 || api.PNot != 2 || api.PLess != 3 || api.PMore != 4 {
		t.Errorf("operators %v", operators())
	}
}

func TestMay(t *testing.T) {
	for _, op := range []int{1, 2, 3, 4, api.PEqual, api.PNot, api.PLess, api.PMore} {
		if !May(op) {
			t.Errorf("May %d: false", op)
		}
	}
}

// The number ahead of the first and the one behind the last with them.
func TestMayOfWrongOperators(t *testing.T) {
	for _, op := range append(wrongOperators(), api.PEqual-1, api.PMore+1) {
		if May(op) {
			t.Errorf("May %d: true", op)
		}
	}
}

func TestHoldsOfPEqual(t *testing.T) {
	holds(t, api.PEqual, 7, 7, true)
	holds(t, api.PEqual, 6, 7, false)
	holds(t, api.PEqual, 8, 7, false)
	holds(t, api.PEqual, 0, 7, false)
	holds(t, api.PEqual, greatest, 7, false)
}

func TestHoldsOfPNot(t *testing.T) {
	holds(t, api.PNot, 7, 7, false)
	holds(t, api.PNot, 6, 7, true)
	holds(t, api.PNot, 8, 7, true)
	holds(t, api.PNot, 0, 7, true)
	holds(t, api.PNot, greatest, 7, true)
}

func TestHoldsOfPLess(t *testing.T) {
	holds(t, api.PLess, 7, 7, false)
	holds(t, api.PLess, 6, 7, true)
	holds(t, api.PLess, 8, 7, false)
	holds(t, api.PLess, 0, 7, true)
	holds(t, api.PLess, greatest, 7, false)
}

func TestHoldsOfPMore(t *testing.T) {
	holds(t, api.PMore, 7, 7, false)
	holds(t, api.PMore, 6, 7, false)
	holds(t, api.PMore, 8, 7, true)
	holds(t, api.PMore, 0, 7, false)
	holds(t, api.PMore, greatest, 7, true)
}

// Of each word with each: words rise, so their places tell how they stand.
func TestHoldsOfEachWord(t *testing.T) {
	for i, word := range words() {
		for k, value := range words() {
			switch {
			case i < k:
				stands(t, word, value, less)
			case i > k:
				stands(t, word, value, more)
			default:
				stands(t, word, value, same)
			}
		}
	}
}

// The value, one less and one more, about each word.
func TestHoldsOfNeighbours(t *testing.T) {
	for _, value := range words() {
		stands(t, value, value, same)
		if value > 0 {
			stands(t, value-1, value, less)
		}
		if value < greatest {
			stands(t, value+1, value, more)
		}
	}
}

// Two words that differ in one bit alone, whichever it is.
func TestHoldsOfEachBit(t *testing.T) {
	for bit := range 64 {
		one := uint64(1) << bit
		stands(t, 0, one, less)
		stands(t, one, 0, more)
		stands(t, one, one, same)
		stands(t, greatest-one, greatest, less)
		stands(t, greatest, greatest-one, more)
	}
}

// With a sign, a word from 2^63 on would be below 0.
func TestHoldsWithoutSign(t *testing.T) {
	stands(t, 1<<63, 0, more)
	stands(t, 0, 1<<63, less)
	stands(t, 1<<63, 1<<63-1, more)
	stands(t, 1<<63-1, 1<<63, less)
	stands(t, greatest, 0, more)
	stands(t, 0, greatest, less)
	stands(t, greatest, 1<<63, more)
	stands(t, 1<<63, greatest, less)
	stands(t, greatest, 1<<63-1, more)
	stands(t, 1<<63-1, greatest, less)
}

func TestHoldsOfWrongOperators(t *testing.T) {
	for _, op := range wrongOperators() {
		for _, word := range words() {
			for _, value := range words() {
				holds(t, op, word, value, false)
			}
		}
	}
}

func TestTurn(t *testing.T) {
	turn(t, api.PEqual, api.PEqual, true)
	turn(t, api.PNot, api.PNot, true)
	turn(t, api.PLess, api.PMore, true)
	turn(t, api.PMore, api.PLess, true)
}

func TestTurnOfWrongOperators(t *testing.T) {
	for _, op := range wrongOperators() {
		turn(t, op, 0, false)
	}
}

// Turned twice, an operator is itself.
func TestTurnOfWhatTurnTells(t *testing.T) {
	for _, op := range operators() {
		turned, ok := Turn(op)
		if !ok || !May(turned) {
			t.Errorf("Turn %d: %d, %v", op, turned, ok)
		}
		turn(t, turned, op, true)
	}
	for _, op := range wrongOperators() {
		none, _ := Turn(op)
		turn(t, none, 0, false)
	}
}

func TestHoldsOfTheTurned(t *testing.T) {
	for _, op := range append(operators(), wrongOperators()...) {
		turned, _ := Turn(op)
		for _, word := range words() {
			for _, value := range words() {
				holds(t, turned, value, word, Holds(op, word, value))
			}
		}
	}
}

// Which numbers are operators is the same to each call: May and Turn say yes to
// just those that hold of some words.
func TestCallsAgree(t *testing.T) {
	for _, op := range append(operators(), wrongOperators()...) {
		_, ok := Turn(op)
		some := Holds(op, 1, 1) || Holds(op, 1, 2) || Holds(op, 2, 1)
		if May(op) != ok || May(op) != some {
			t.Errorf("operator %d: May %v, Turn %v, Holds %v", op, May(op), ok, some)
		}
	}
}

// What a call answers hangs on its arguments alone.
func TestAskedAgain(t *testing.T) {
	for range 3 {
		for _, op := range operators() {
			Turn(op)
			May(-op)
			Holds(op, greatest, 0)
		}
		turn(t, api.PLess, api.PMore, true)
		turn(t, 0, 0, false)
		holds(t, api.PLess, 1, 2, true)
		holds(t, 0, 1, 2, false)
		if !May(api.PMore) || May(0) {
			t.Errorf("May %v, %v", May(api.PMore), May(0))
		}
	}
}
