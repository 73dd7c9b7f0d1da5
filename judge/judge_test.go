package judge

import (
	"math"
	"slices"
	"testing"

	"messuage/api"
)

var size = api.Size{Cores: 3, Envs: 2, Frames: 2}

func call(words ...uint64) api.Call {
	var c api.Call
	copy(c[:], words)
	return c
}

// history is events of core 0, one behind the other, as far as nothing else is
// put among them.
type history struct {
	es  []api.Event
	now int
}

// add is a call of core 0 that takes one step behind its Begin.
func (h *history) add(env int, a api.Answer, l api.Line, words ...uint64) *history {
	h.es = append(h.es, api.Event{Env: env, Call: call(words...), Begin: h.now + 1, Effect: h.now + 2, End: h.now + 2, Answer: a, Line: l})
	h.now += 2
	return h
}

func (h *history) ok(env int, words ...uint64) *history {
	return h.add(env, api.Answer{}, api.Line{}, words...)
}

// open begins a call on that core that does not take effect, unless effect is
// a step.
func (h *history) open(core, env, effect int, a api.Answer, words ...uint64) *history {
	h.now++
	h.es = append(h.es, api.Event{Core: core, Env: env, Call: call(words...), Begin: h.now, Effect: effect, End: effect, Answer: a})
	return h
}

func line(env, page, frame, rights int) api.Line {
	return api.Line{Env: env, Page: page, Frame: frame, Rights: rights}
}

func val(v uint64) api.Answer { return api.Answer{Val: v} }

func fault() api.Answer { return api.Answer{Err: api.ErrFault} }

// start is a history in which environment 0 has frame 0 by slot 0 at page 1, and
// its word 3 is 7, and environment 1 has of it slot 2, to read, at page 5.
func start() *history {
	h := &history{}
	h.ok(0, api.CAlloc, 0).ok(0, api.CMap, 1, 0, 3).ok(0, api.CGrant, 0, 1, 2, 1).ok(1, api.CMap, 5, 2, 1)
	return h.add(0, api.Answer{}, line(0, 1, 0, 3), api.UStore, 1, 3, 7)
}

// judged holds all three answers against what they should be: the places of
// the first wrong ones, none if all are right.
func judged(t *testing.T, what string, h *history, linear, access int) {
	t.Helper()
	was := slices.Clone(h.es)
	at, ok := Linear(h.es, size)
	if at != linear || ok != (linear == none) {
		t.Errorf("%s: Linear %d, %v, not %d: %v", what, at, ok, linear, h.es)
	}
	at, ok = Access(h.es, size)
	if at != access || ok != (access == none) {
		t.Errorf("%s: Access %d, %v, not %d: %v", what, at, ok, access, h.es)
	}
	if Right(h.es, size) != (linear == none && access == none) {
		t.Errorf("%s: Right %v", what, Right(h.es, size))
	}
	if !slices.Equal(h.es, was) {
		t.Errorf("%s: the list changed", what)
	}
}

func right(t *testing.T, what string, h *history) {
	t.Helper()
	judged(t, what, h, none, none)
}

func TestRight(t *testing.T) {
	right(t, "none", &history{})
	right(t, "start", start())
	h := start().add(1, val(7), line(1, 5, 0, 1), api.ULoad, 5, 3).add(1, fault(), api.Line{}, api.UStore, 5, 3, 8)
	h.add(0, val(7), line(0, 1, 0, 3), api.UAdd, 1, 3, 3).add(0, val(10), line(0, 1, 0, 3), api.UCas, 1, 3, 10, 4)
	h.add(1, val(4), api.Line{}, api.CSleep, 2, 3, api.PLess, 5).add(0, val(1), api.Line{}, api.CRevoke, 0)
	h.add(1, fault(), api.Line{}, api.ULoad, 5, 3).add(0, val(4), line(0, 1, 0, 1), api.ULoad, 1, 3)
	right(t, "all kinds", h)
	right(t, "one that has no effect", h.open(1, 0, 0, api.Answer{}, api.CUnmap, 1))
}

// A list that is no history is not judged at all.
func TestNoHistory(t *testing.T) {
	for what, change := range map[string]func(e *api.Event){
		"Begin":  func(e *api.Event) { e.Begin = 1 },
		"Effect": func(e *api.Event) { e.Effect = 1 },
		"End":    func(e *api.Event) { e.End = 1 },
		"Core":   func(e *api.Event) { e.Core = 3 },
		"Env":    func(e *api.Event) { e.Env = 2 },
		"wrong":  func(e *api.Event) { e.Core, e.Answer.Err = -1, 99 },
	} {
		h := start()
		change(&h.es[3])
		for _, judge := range []func([]api.Event, api.Size) (int, bool){Linear, Access} {
			if at, ok := judge(h.es, size); at != -1 || ok {
				t.Errorf("%s: %d, %v", what, at, ok)
			}
		}
		if Right(h.es, size) {
			t.Errorf("%s: Right", what)
		}
	}
}

// A wrong answer of any call but loads and stores is told by Linear, at its
// place: it is the first one, though others behind it are wrong as well.
func TestWrongAnswers(t *testing.T) {
	for at := range 4 {
		for _, a := range []api.Answer{{Val: 1}, {Err: api.ErrNone}, {Err: api.ErrFault}, {Err: -1}, {Err: math.MaxInt}, {Val: math.MaxUint64}} {
			h := start()
			h.es[at].Answer = a
			judged(t, "one", h, at, none)
			h.es[3].Answer = a
			judged(t, "two", h, at, none)
		}
	}
	h := start().add(1, api.Answer{Err: api.ErrBusy}, api.Line{}, api.CMap, 5, 2, 1).add(0, val(2), api.Line{}, api.CDrop, 0).add(0, api.Answer{Err: api.ErrCall}, api.Line{}, 99).add(0, api.Answer{Err: api.ErrArg}, api.Line{}, api.CAlloc, 8)
	right(t, "errors", h)
	for at := 5; at < 9; at++ {
		was := h.es[at].Answer
		h.es[at].Answer = api.Answer{}
		judged(t, "an error", h, at, none)
		h.es[at].Answer = was
	}
}

// What is first is told by Effects, not by places.
func TestOrder(t *testing.T) {
	h := &history{}
	h.open(0, 0, 6, api.Answer{Err: api.ErrBusy}, api.CAlloc, 5)
	h.open(1, 0, 5, api.Answer{}, api.CAlloc, 5)
	right(t, "the second one first", h)
	h.es[0].Answer, h.es[1].Answer = h.es[1].Answer, h.es[0].Answer
	judged(t, "the first one first", h, 1, none)
}

// One that waits took no effect.
func TestSleep(t *testing.T) {
	right(t, "at once", start().add(1, val(7), api.Line{}, api.CSleep, 2, 3, api.PEqual, 7))
	judged(t, "never", start().ok(1, api.CSleep, 2, 3, api.PEqual, 8), 5, none)
	judged(t, "another word", start().add(1, val(8), api.Line{}, api.CSleep, 2, 3, api.PEqual, 7), 5, none)
	right(t, "under way", start().open(0, 1, 0, api.Answer{}, api.CSleep, 2, 3, api.PEqual, 8))
	right(t, "an error", start().add(1, api.Answer{Err: api.ErrNone}, api.Line{}, api.CSleep, 3, 3, api.PEqual, 8))
}

// Linear passes loads and stores by, but does what went well in the frame that
// its line tells, right or not.
func TestLinearOfLoadsAndStores(t *testing.T) {
	sleeps := func(h *history, v uint64) *history {
		return h.add(0, val(v), api.Line{}, api.CSleep, 0, 3, api.PNot, 1<<40)
	}
	judged(t, "of no entry", sleeps(start().add(0, api.Answer{}, line(0, 2, 0, 3), api.UStore, 2, 3, 9), 9), none, 5)
	judged(t, "of another frame", sleeps(start().add(0, api.Answer{}, line(0, 1, 1, 3), api.UStore, 1, 3, 9), 7), none, 5)
	judged(t, "of no frame", sleeps(start().add(0, api.Answer{}, line(0, 1, 2, 3), api.UStore, 1, 3, 9), 7), none, 5)
	judged(t, "of no rights that may be", sleeps(start().add(0, api.Answer{}, line(0, 1, 0, 8), api.UStore, 1, 3, 9), 9), none, 5)
	judged(t, "of no line", sleeps(start().add(0, api.Answer{}, line(0, 1, 0, 0), api.UStore, 1, 3, 9), 7), none, 5)
	judged(t, "of an error", sleeps(start().add(0, fault(), line(0, 1, 0, 3), api.UStore, 1, 3, 9), 7), none, 5)
	judged(t, "of a wrong place", sleeps(start().add(0, api.Answer{}, line(0, 1, 0, 3), api.UStore, 1, 16, 9), 7), none, 5)
	judged(t, "of a wrong page", sleeps(start().add(0, api.Answer{}, line(0, 1, 0, 3), api.UStore, 8, 3, 9), 7), none, 5)
	judged(t, "of a wrong value", sleeps(start().add(0, val(1), line(0, 1, 0, 3), api.UAdd, 1, 3, 9), 16), none, 5)
	judged(t, "without an effect", sleeps(start().open(1, 0, 0, api.Answer{}, api.UStore, 1, 3, 9), 7), none, none)
}

// A load or a store with wrong words has their error, and nothing else.
func TestAccessOfWrongWords(t *testing.T) {
	for _, c := range [][]uint64{{api.ULoad, 8, 3}, {api.ULoad, 1, 16}, {api.UStore, math.MaxUint64, 3}, {api.UCas, 1 << 32, 0}, {api.UAdd, 1, 1 << 63}} {
		right(t, "wrong words", start().add(0, api.Answer{Err: api.ErrArg}, api.Line{}, c...))
		judged(t, "no error", start().add(0, api.Answer{}, api.Line{}, c...), none, 5)
		judged(t, "a line", start().add(0, api.Answer{}, line(0, 1, 0, 3), c...), none, 5)
		judged(t, "another error", start().add(0, fault(), api.Line{}, c...), none, 5)
		judged(t, "a value", start().add(0, api.Answer{Err: api.ErrArg, Val: 1}, api.Line{}, c...), none, 5)
		judged(t, "an error and a line", start().add(0, api.Answer{Err: api.ErrArg}, line(0, 1, 0, 3), c...), none, 5)
		judged(t, "an error and a part of a line", start().add(0, api.Answer{Err: api.ErrArg}, api.Line{Page: 1}, c...), none, 5)
	}
	judged(t, "an error of right words", start().add(0, api.Answer{Err: api.ErrArg}, api.Line{}, api.ULoad, 1, 3), none, 5)
}

// A load or a store tells ErrFault of what its entry does not let, and of
// nothing else.
func TestAccessOfFaults(t *testing.T) {
	for _, c := range [][]uint64{{api.ULoad, 2, 3}, {api.UStore, 5, 3, 1}, {api.UCas, 5, 3}, {api.UAdd, 5, 3}, {api.ULoad, 1, 3}} {
		right(t, "a fault", start().add(1, fault(), api.Line{}, c...))
		judged(t, "a value", start().add(1, api.Answer{Err: api.ErrFault, Val: 7}, api.Line{}, c...), none, 5)
		judged(t, "a line", start().add(1, fault(), line(1, 5, 0, 1), c...), none, 5)
		judged(t, "a part of a line", start().add(1, fault(), api.Line{Env: 1}, c...), none, 5)
		judged(t, "another error", start().add(1, api.Answer{Err: api.ErrRights}, api.Line{}, c...), none, 5)
		judged(t, "none", start().add(1, api.Answer{}, api.Line{}, c...), none, 5)
	}
	judged(t, "of what it lets", start().add(1, fault(), api.Line{}, api.ULoad, 5, 3), none, 5)
	judged(t, "of what it lets", start().add(0, fault(), api.Line{}, api.UCas, 1, 3), none, 5)
}

// A load that went well tells its own line, of the entry's frame and of no more
// than its rights, and the word.
func TestAccessOfLines(t *testing.T) {
	right(t, "all rights", start().add(0, val(7), line(0, 1, 0, 3), api.ULoad, 1, 3))
	right(t, "less rights", start().add(0, val(7), line(0, 1, 0, 1), api.ULoad, 1, 3))
	right(t, "less rights", start().add(0, api.Answer{}, line(0, 1, 0, 2), api.UStore, 1, 3, 1))
	for what, l := range map[string]api.Line{
		"another environment": line(1, 1, 0, 1), "another page": line(0, 5, 0, 1), "another frame": line(0, 1, 1, 1), "no rights": line(0, 1, 0, 0), "not enough rights": line(0, 1, 0, 2),
		"too many rights": line(0, 1, 0, 5), "rights below 0": line(0, 1, 0, -1), "none": {}, "an environment below 0": line(-1, 1, 0, 1), "no frame": line(0, 1, -1, 1),
	} {
		judged(t, what, start().add(0, val(7), l, api.ULoad, 1, 3), none, 5)
	}
	judged(t, "more than the entry", start().add(1, val(7), line(1, 5, 0, 3), api.ULoad, 5, 3), none, 5)
	judged(t, "another word", start().add(0, val(8), line(0, 1, 0, 3), api.ULoad, 1, 3), none, 5)
	judged(t, "a word of a store", start().add(0, val(7), line(0, 1, 0, 3), api.UStore, 1, 3, 9), none, 5)
	judged(t, "what is there behind an add", start().add(0, val(8), line(0, 1, 0, 3), api.UAdd, 1, 3, 1), none, 5)
	h := start().add(0, val(7), line(0, 1, 0, 3), api.UAdd, 1, 3, math.MaxUint64).add(1, val(6), line(1, 5, 0, 1), api.ULoad, 5, 3)
	right(t, "what another one stored", h)
}

// The first one by Effects is told, and kernel calls that are wrong are done
// all the same.
func TestAccessOfTheFirst(t *testing.T) {
	h := start()
	h.es[0].Answer.Err = api.ErrBusy
	judged(t, "a wrong answer", h, 0, none)
	h.add(0, val(8), line(0, 1, 0, 3), api.ULoad, 1, 3).add(0, val(9), line(0, 1, 0, 3), api.ULoad, 1, 3)
	judged(t, "two", h, 0, 5)
	g := start()
	g.open(0, 0, 15, val(9), api.ULoad, 1, 3)
	g.open(1, 0, 14, val(9), api.ULoad, 1, 3)
	judged(t, "the second one first", g, none, 6)
}

// takers are calls that take page 1 of start's environment 0, or change it, on
// core 1, with what its entry is behind them.
func takers() map[[3]uint64]int {
	return map[[3]uint64]int{{api.CUnmap, 1}: 0, {api.CDrop, 0}: 0, {api.CProtect, 1, 1}: 1, {api.CProtect, 1, 2}: 2}
}

// Amidst a call that takes it an entry may also be what it will be.
func TestAccessAmidstTakers(t *testing.T) {
	for c, rights := range takers() {
		for _, effect := range []int{0, 99} {
			amidst := func() *history {
				h := start().open(1, 0, effect, api.Answer{}, c[:]...)
				if effect > 0 && c[0] == api.CDrop {
					h.es[5].Answer.Val = 2
				}
				return h
			}
			right(t, "as it was", amidst().add(0, val(7), line(0, 1, 0, 3), api.ULoad, 1, 3))
			loads, stores := none, none
			if rights&1 != 0 {
				loads = 6
			}
			if rights&2 != 0 {
				stores = 6
			}
			judged(t, "as it will be", amidst().add(0, fault(), api.Line{}, api.ULoad, 1, 3), none, loads)
			judged(t, "as it will be", amidst().add(0, fault(), api.Line{}, api.UStore, 1, 3), none, stores)
			judged(t, "neither", amidst().add(0, val(7), line(0, 1, 1, 3), api.ULoad, 1, 3), none, 6)
			judged(t, "of another page", amidst().add(1, fault(), api.Line{}, api.ULoad, 4, 3), none, none)
		}
	}
}

// What a taker will do is not done yet, for those that come behind.
func TestAccessAmidstTakersAgain(t *testing.T) {
	for c := range takers() {
		h := start().open(1, 0, 0, api.Answer{}, c[:]...)
		h.add(0, val(7), line(0, 1, 0, 3), api.ULoad, 1, 3).add(0, val(7), line(0, 1, 0, 3), api.UAdd, 1, 3, 1)
		right(t, "twice", h.add(0, api.Answer{Err: api.ErrBusy}, api.Line{}, api.CMap, 1, 0, 3))
	}
}

// A CRevoke of what an entry is by takes it not, one of what that came from does.
func TestAccessAmidstCRevoke(t *testing.T) {
	h := start().open(1, 0, 0, api.Answer{}, api.CRevoke, 0)
	right(t, "what came from it", h.add(1, fault(), api.Line{}, api.ULoad, 5, 3))
	judged(t, "what it is by", h.add(0, fault(), api.Line{}, api.ULoad, 1, 3), none, 7)
}

// What a call gives is there amidst it, too.
func TestAccessAmidstMoreRights(t *testing.T) {
	h := start().ok(0, api.CProtect, 1, 1)
	judged(t, "ahead of it", h.add(0, api.Answer{}, line(0, 1, 0, 3), api.UStore, 1, 3, 1), none, 6)
	h = start().ok(0, api.CProtect, 1, 1).open(1, 0, 0, api.Answer{}, api.CProtect, 1, 3)
	right(t, "amidst it", h.add(0, api.Answer{}, line(0, 1, 0, 3), api.UStore, 1, 3, 1))
}

// Other calls that are under way, takers that fail, and takers that have taken
// effect or have not begun, are no reason for anything.
func TestAccessAmidstOthers(t *testing.T) {
	for _, c := range [][]uint64{{api.CUnmap, 2}, {api.CUnmap, 9}, {api.CRevoke, 3}, {api.CDrop, 3}, {api.CProtect, 1, 0}, {api.CProtect, 5, 2}, {api.CMap, 1, 0, 1}, {api.CAlloc, 1}, {api.CSleep, 0, 3, 1, 99}, {api.CYield}, {api.UStore, 1, 3, 1}, {99}} {
		h := start().open(1, 0, 0, api.Answer{}, c...)
		judged(t, "another one", h.add(0, fault(), api.Line{}, api.ULoad, 1, 3), none, 6)
	}
	h := start().open(1, 0, 13, api.Answer{}, api.CUnmap, 1)
	h.now = 13
	judged(t, "behind its effect", h.add(0, val(7), line(0, 1, 0, 3), api.ULoad, 1, 3), none, 6)
	h = start().add(0, fault(), api.Line{}, api.ULoad, 1, 3)
	judged(t, "ahead of its Begin", h.open(1, 0, 0, api.Answer{}, api.CUnmap, 1), none, 5)
	h = start().open(1, 1, 0, api.Answer{}, api.CUnmap, 1)
	judged(t, "of another environment", h.add(0, fault(), api.Line{}, api.ULoad, 1, 3), none, 6)
}

// Of two that are under way each is done alone.
func TestAccessAmidstTwo(t *testing.T) {
	two := func() *history {
		return start().open(1, 0, 0, api.Answer{}, api.CUnmap, 1).open(2, 0, 0, api.Answer{}, api.CProtect, 1, 2)
	}
	right(t, "by the first", two().add(0, fault(), api.Line{}, api.UStore, 1, 3))
	right(t, "by the second", two().add(0, fault(), api.Line{}, api.ULoad, 1, 3))
	right(t, "by none", two().add(0, val(7), line(0, 1, 0, 3), api.ULoad, 1, 3))
	both := start().ok(0, api.CProtect, 1, 1).open(1, 0, 0, api.Answer{}, api.CRevoke, 0).open(2, 0, 0, api.Answer{}, api.CProtect, 1, 2)
	right(t, "more by one of them", both.add(0, api.Answer{}, line(0, 1, 0, 2), api.UStore, 1, 3, 5))
	judged(t, "more by both", both.add(0, val(5), line(0, 1, 0, 3), api.UAdd, 1, 3, 5), none, 9)
}

// A machine that can't be has no environments.
func TestNoMachine(t *testing.T) {
	for _, s := range []api.Size{{Cores: 9, Envs: 2, Frames: 2}, {Cores: 3, Envs: 5, Frames: 2}, {Cores: 3, Envs: 2, Frames: 0}, {Cores: math.MaxInt, Envs: math.MaxInt, Frames: math.MaxInt}} {
		if !Right(nil, s) {
			t.Errorf("%v: nothing is wrong", s)
		}
		if at, ok := Linear(start().es, s); at != 0 || ok {
			t.Errorf("%v: Linear %d, %v", s, at, ok)
		}
		if at, ok := Access(start().es, s); at != 4 || ok {
			t.Errorf("%v: Access %d, %v", s, at, ok)
		}
		h := &history{}
		off := api.Answer{Err: api.ErrOff}
		if h.add(0, off, api.Line{}, api.CYield).add(1, off, api.Line{}, api.ULoad, 1, 3).add(1, off, api.Line{}, 99); !Right(h.es, s) {
			t.Errorf("%v: ErrOff is not right", s)
		}
	}
	if Right(start().es, api.Size{}) {
		t.Error("no machine at all: Right")
	}
}
