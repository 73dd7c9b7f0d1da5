package user

import (
	"math"
	"testing"

	"messuage/api"
	"messuage/plain"
)

const greatest = math.MaxUint64

// ok does a Do that should tell val and l.
func (w *world) ok(env int, c api.Call, val uint64, l api.Line) {
	w.t.Helper()
	if a, got := w.do(env, c); a != (api.Answer{Val: val}) || got != l {
		w.t.Fatalf("Do %d, %v: %v, %v, not %d, %v", env, c, a, got, val, l)
	}
}

// err does a Do that should tell that error.
func (w *world) err(env int, c api.Call, err api.Errno) {
	w.t.Helper()
	if a, l := w.do(env, c); a != (api.Answer{Err: err}) || l != (api.Line{}) {
		w.t.Fatalf("Do %d, %v: %v, %v, not %d", env, c, a, l, err)
	}
}

// at holds one word of the memory against v.
func (w *world) at(frame, at int, v uint64) {
	w.t.Helper()
	if got, ok := w.m.Load(frame, at); got != v || !ok {
		w.t.Fatalf("word %d of frame %d: %d, %v, not %d", at, frame, got, ok, v)
	}
}

func TestDoLoad(t *testing.T) {
	w := made(t, 4).fullMem()
	w.insert(5, entryOf(3, 1, 1))
	for at := range uint64(16) {
		w.ok(2, api.Call{api.ULoad, 5, at}, 1300+at, line(2, 5, 3, 1))
	}
	w.store(3, 9, greatest)
	w.ok(2, api.Call{api.ULoad, 5, 9}, greatest, line(2, 5, 3, 1))
}

func TestDoStore(t *testing.T) {
	w := made(t, 4).fullMem()
	w.insert(5, entryOf(3, 1, 2))
	for at := range uint64(16) {
		for _, v := range []uint64{greatest, 7, 1 << 63, 0, at} {
			w.ok(2, api.Call{api.UStore, 5, at, v}, 0, line(2, 5, 3, 2))
			w.at(3, int(at), v)
		}
	}
}

func TestDoCas(t *testing.T) {
	w := made(t, 4).fullMem()
	w.insert(5, entryOf(3, 1, 3))
	l := line(2, 5, 3, 3)
	w.ok(2, api.Call{api.UCas, 5, 15, 1315, 7}, 1315, l)
	w.at(3, 15, 7)
	w.ok(2, api.Call{api.UCas, 5, 15, 1315, 8}, 7, l)
	w.at(3, 15, 7)
	w.ok(2, api.Call{api.UCas, 5, 15, 8, 7}, 7, l)
	w.at(3, 15, 7)
	w.ok(2, api.Call{api.UCas, 5, 15, 7, greatest}, 7, l)
	w.ok(2, api.Call{api.UCas, 5, 15, greatest, greatest}, greatest, l)
	w.ok(2, api.Call{api.UCas, 5, 15, greatest, 0}, greatest, l)
	w.ok(2, api.Call{api.UCas, 5, 15, 0, 0}, 0, l)
	w.ok(2, api.Call{api.UCas, 5, 15, 1 << 32, 1}, 0, l)
	w.at(3, 15, 0)
}

func TestDoAdd(t *testing.T) {
	w := made(t, 4).fullMem()
	w.insert(5, entryOf(3, 1, 3))
	l := line(2, 5, 3, 3)
	w.ok(2, api.Call{api.UAdd, 5, 0, 5}, 1300, l)
	w.at(3, 0, 1305)
	w.ok(2, api.Call{api.UAdd, 5, 0, 0}, 1305, l)
	w.ok(2, api.Call{api.UAdd, 5, 0, greatest}, 1305, l)
	w.at(3, 0, 1304)
	w.ok(2, api.Call{api.UAdd, 5, 0, greatest - 1304}, 1304, l)
	w.at(3, 0, greatest)
	w.ok(2, api.Call{api.UAdd, 5, 0, 3}, greatest, l)
	w.at(3, 0, 2)
	w.ok(2, api.Call{api.UAdd, 5, 0, 1 << 63}, 2, l)
	w.ok(2, api.Call{api.UAdd, 5, 0, 1 << 63}, 1<<63+2, l)
	w.at(3, 0, 2)
}

// values are values that are tried with each kind.
func values() []uint64 { return []uint64{0, 1, 2, 1305, 1 << 63, greatest - 1, greatest} }

// kernel is a plain kernel whose frame 0 is mapped in all environments, page n
// with rights n%4, as w's table has them.
func kernel(t *testing.T, w *world) *plain.Kernel {
	t.Helper()
	k := plain.New(api.Size{Cores: 1, Envs: 4, Frames: 1})
	calls := []api.Call{{api.CAlloc, 0}, {api.CGrant, 0, 1, 0, 3}, {api.CGrant, 0, 2, 0, 3}, {api.CGrant, 0, 3, 0, 3}}
	for _, c := range calls {
		if a, _ := k.Do(0, c); a.Err != api.OK {
			t.Fatalf("plain %v: %v", c, a)
		}
	}
	for page := range 8 {
		if page%4 == 0 {
			continue
		}
		w.insert(page, entryOf(0, 0, page%4))
		for env := range 4 {
			if a, _ := k.Do(env, api.Call{api.CMap, uint64(page), 0, uint64(page % 4)}); a.Err != api.OK {
				t.Fatalf("plain CMap %d, %d: %v", env, page, a)
			}
		}
	}
	return k
}

// Each load and each store tells and leaves what it does in a plain kernel of
// the same entries.
func TestDoAsPlainHasIt(t *testing.T) {
	w := made(t, 1)
	k := kernel(t, w)
	for n, kind := range users() {
		for page := range uint64(9) {
			for at := range uint64(17) {
				for _, v := range values() {
					for _, u := range append(values(), v+1) {
						env := (n + int(page+at)) % 5
						c := api.Call{uint64(kind), page, at, v, u}
						want, _ := k.Do(env, c)
						if a, _ := w.do(env, c); a != want {
							t.Fatalf("Do %d, %v: %v, not %v", env, c, a, want)
						}
					}
				}
			}
		}
	}
	for at, v := range k.Frame(0) {
		w.at(0, at, v)
	}
}

// In the frame of what Walk found: by the buffer's entry, though the table has
// another frame, or none, or less.
func TestDoInTheFrameOfTheBuffer(t *testing.T) {
	for _, p := range []api.Pte{{}, entryOf(1, 1, 3), entryOf(2, 1, 1)} {
		w := made(t, 3).fullMem()
		w.fill(line(1, 4, 2, 3))
		w.insert(4, p)
		l := line(1, 4, 2, 3)
		w.ok(1, api.Call{api.ULoad, 4, 6}, 1206, l)
		w.ok(1, api.Call{api.UStore, 4, 6, 9}, 0, l)
		w.ok(1, api.Call{api.UCas, 4, 6, 9, 10}, 9, l)
		w.ok(1, api.Call{api.UAdd, 4, 6, 1}, 10, l)
		w.at(2, 6, 11)
		w.finish("Do")
	}
}

// By the table's where the buffer has none, or less; the next goes by what was
// filled then, though the table has it no more.
func TestDoInTheFrameOfTheTable(t *testing.T) {
	w := made(t, 3).fullMem()
	w.fill(line(1, 4, 2, 1))
	w.insert(4, entryOf(1, 1, 3))
	w.ok(1, api.Call{api.ULoad, 4, 6}, 1206, line(1, 4, 2, 1))
	w.ok(1, api.Call{api.UStore, 4, 6, 9}, 0, line(1, 4, 1, 3))
	w.insert(4, entryOf(0, 1, 3))
	w.ok(1, api.Call{api.UAdd, 4, 6, 1}, 9, line(1, 4, 1, 3))
	w.ok(0, api.Call{api.ULoad, 4, 6}, 1006, line(0, 4, 0, 3))
	w.insert(4, api.Pte{})
	w.ok(1, api.Call{api.ULoad, 4, 6}, 10, line(1, 4, 1, 3))
	w.ok(0, api.Call{api.ULoad, 4, 6}, 1006, line(0, 4, 0, 3))
	w.err(2, api.Call{api.ULoad, 4, 6}, api.ErrFault)
	w.finish("Do")
}

// Words that do not count may be anything.
func TestDoOfWordsThatDoNotCount(t *testing.T) {
	w := made(t, 3).fullMem()
	w.insert(0, entryOf(2, 0, 3))
	l := line(0, 0, 2, 3)
	for _, v := range append(wrongWords(16), 0, 1) {
		w.ok(0, api.Call{api.ULoad, 0, 1, v, v}, 1201, l)
		w.ok(0, api.Call{api.UStore, 0, 2, 5, v}, 0, l)
		w.ok(0, api.Call{api.UAdd, 0, 3, 0, v}, 1203, l)
		w.at(2, 2, 5)
	}
}

// ErrOff is named ahead of all else, and nothing changes by it.
func TestDoOfAWrongEnvironment(t *testing.T) {
	w := filled(t)
	calls := []api.Call{{}, {api.CMap, 99}, {99}, {greatest, greatest, greatest, greatest, greatest}}
	for _, kind := range users() {
		c := uint64(kind)
		calls = append(calls, api.Call{c, 0, 0, 1}, api.Call{c, 8, 16}, api.Call{c, 1, 16, 1, 1})
	}
	for _, env := range wrong(api.MaxEnvs) {
		for _, c := range calls {
			w.err(env, c, api.ErrOff)
		}
	}
	w.finish("Do")
}

// ErrCall of all that is neither a load nor a store, whatever its other words.
func TestDoOfAWrongKind(t *testing.T) {
	w := filled(t)
	for _, kind := range others() {
		for env := range 4 {
			c := uint64(kind)
			w.err(env, api.Call{c}, api.ErrCall)
			w.err(env, api.Call{c, 1, 1, 1, 1}, api.ErrCall)
			w.err(env, api.Call{c, 99, 99, 99, 99}, api.ErrCall)
			w.err(env, api.Call{c, greatest, greatest, greatest, greatest}, api.ErrCall)
		}
	}
	w.finish("Do")
}

// ErrArg of a page or a place beyond, ahead of ErrFault: nothing changes by it,
// the buffer's entry that would be flushed neither.
func TestDoOfWrongWords(t *testing.T) {
	w := filled(t)
	w.insert(0, api.Pte{})
	w.fill(line(0, 0, 8, 1))
	for n, kind := range users() {
		c := uint64(kind)
		for _, v := range wrongWords(api.Pages) {
			w.err(n, api.Call{c, v, 0, 1, 1}, api.ErrArg)
			w.err(n, api.Call{c, v, 16, 1, 1}, api.ErrArg)
		}
		for _, v := range wrongWords(api.Words) {
			for page := range uint64(8) {
				w.err(n, api.Call{c, page, v, 1, 1}, api.ErrArg)
				w.err(0, api.Call{c, page, v, 1, 1}, api.ErrArg)
			}
		}
	}
	w.finish("Do")
}

// ErrFault changes nothing but the buffer's entry that is flushed.
func TestDoOfAFault(t *testing.T) {
	w := made(t, 3).fullMem()
	w.insert(2, entryOf(1, 0, 1))
	w.fill(line(0, 2, 1, 1))
	w.fill(line(1, 2, 1, 1))
	w.fill(line(0, 3, 1, 1))
	w.fill(line(0, 7, 2, 2))
	w.err(0, api.Call{api.UStore, 2, 0, 5}, api.ErrFault)
	w.has(gone, gone, gone, gone, gone, line(1, 2, 1, 1), line(0, 3, 1, 1), line(0, 7, 2, 2))
	w.err(0, api.Call{api.UCas, 2, 0, 1100, 5}, api.ErrFault)
	w.err(0, api.Call{api.UAdd, 3, 0, 5}, api.ErrFault)
	w.has(gone, gone, gone, gone, gone, line(1, 2, 1, 1), gone, line(0, 7, 2, 2))
	w.err(0, api.Call{api.ULoad, 7, 0}, api.ErrFault)
	w.has(gone, gone, gone, gone, gone, line(1, 2, 1, 1), gone, gone)
	w.err(3, api.Call{api.ULoad, 0, 0}, api.ErrFault)
	w.finish("Do")
}

// A frame that the memory has not: OK and 0, by the buffer's entry and by the
// table's, and the line is told, and filled.
func TestDoInAFrameThatIsNone(t *testing.T) {
	for frames := 1; frames < 16; frames++ {
		for _, frame := range []int{frames, 15} {
			w := made(t, frames).fullMem()
			w.insert(6, entryOf(frame, 1, 3))
			w.fill(line(2, 1, frame, 3))
			for _, kind := range users() {
				c := uint64(kind)
				w.ok(0, api.Call{c, 6, 1, 0, 5}, 0, line(0, 6, frame, 3))
				w.ok(2, api.Call{c, 1, 15, 7}, 0, line(2, 1, frame, 3))
			}
			w.err(2, api.Call{api.ULoad, 5, 1}, api.ErrFault)
			w.finish("Do")
		}
	}
}

func TestDoWithoutABuffer(t *testing.T) {
	w := made(t, 3).fullMem().withoutBuffer()
	w.insert(2, entryOf(1, 0, 1))
	w.insert(3, entryOf(2, 0, 3))
	w.ok(0, api.Call{api.ULoad, 2, 5}, 1105, line(0, 2, 1, 1))
	w.ok(1, api.Call{api.UAdd, 3, 5, 1}, 1205, line(1, 3, 2, 3))
	w.ok(2, api.Call{api.UCas, 3, 5, 1206, 8}, 1206, line(2, 3, 2, 3))
	w.ok(3, api.Call{api.UStore, 3, 6, 9}, 0, line(3, 3, 2, 3))
	w.err(0, api.Call{api.UStore, 2, 5, 1}, api.ErrFault)
	w.insert(2, api.Pte{})
	w.err(0, api.Call{api.ULoad, 2, 5}, api.ErrFault)
	w.expectErrors()
}

func TestDoWithoutATable(t *testing.T) {
	w := made(t, 3).fullMem().withoutTable()
	w.fill(line(0, 2, 1, 1))
	w.fill(line(0, 3, 2, 3))
	w.ok(0, api.Call{api.ULoad, 2, 5}, 1105, line(0, 2, 1, 1))
	w.ok(0, api.Call{api.UStore, 3, 5, 9}, 0, line(0, 3, 2, 3))
	w.err(0, api.Call{api.UStore, 2, 5, 1}, api.ErrFault)
	w.err(0, api.Call{api.ULoad, 2, 5}, api.ErrFault)
	w.err(1, api.Call{api.ULoad, 3, 5}, api.ErrFault)
	w.expectErrors()
}

func TestDoWithoutAMemory(t *testing.T) {
	w := made(t, 3).withoutMem()
	w.insert(2, entryOf(0, 0, 1))
	w.fill(line(0, 3, 0, 3))
	w.ok(0, api.Call{api.ULoad, 2, 5}, 0, line(0, 2, 0, 1))
	for _, kind := range users() {
		w.ok(0, api.Call{uint64(kind), 3, 0, 0, 9}, 0, line(0, 3, 0, 3))
	}
	w.err(0, api.Call{api.UStore, 2, 5, 1}, api.ErrFault)
	w.expectErrors()
}

func TestDoWithoutAnything(t *testing.T) {
	w := made(t, 1).withoutBuffer().withoutTable().withoutMem()
	for env := range 4 {
		for _, kind := range users() {
			for page := range uint64(8) {
				w.err(env, api.Call{uint64(kind), page, page * 2, 1, 1}, api.ErrFault)
			}
		}
	}
	w.expectErrors()
}

// Two of the three are nil.
func TestDoWithOneOfThem(t *testing.T) {
	w := made(t, 2).fullMem().withoutBuffer().withoutTable()
	w.err(0, api.Call{api.UStore, 0, 0, 1}, api.ErrFault)
	w.expectErrors()
	w = made(t, 2).withoutBuffer().withoutMem()
	w.insert(0, entryOf(1, 0, 3))
	w.ok(0, api.Call{api.UAdd, 0, 0, 1}, 0, line(0, 0, 1, 3))
	w.expectErrors()
	w = made(t, 2).withoutTable().withoutMem()
	w.fill(line(0, 0, 1, 3))
	w.ok(0, api.Call{api.UAdd, 0, 0, 1}, 0, line(0, 0, 1, 3))
	w.expectErrors()
}

// expectErrors shows that the errors that are named ahead of ErrFault are those
// of each world.
func (w *world) expectErrors() {
	w.t.Helper()
	w.err(4, api.Call{api.CMap, 99}, api.ErrOff)
	w.err(math.MinInt, api.Call{api.ULoad, 0, 0}, api.ErrOff)
	w.err(3, api.Call{api.CMap, 99}, api.ErrCall)
	w.err(3, api.Call{}, api.ErrCall)
	w.err(0, api.Call{api.ULoad, 8, 0}, api.ErrArg)
	w.err(0, api.Call{api.ULoad, 0, greatest}, api.ErrArg)
	w.finish("the errors")
}

// Two buffers over one table and one memory: what one loses the other keeps,
// and what one stores the other loads.
func TestDoOfTwoBuffers(t *testing.T) {
	w, second := made(t, 2), made(t, 2)
	second.p, second.m = w.p, w.m
	w.insert(2, entryOf(1, 0, 3))
	second.entries = w.entries
	w.ok(0, api.Call{api.UStore, 2, 3, 77}, 0, line(0, 2, 1, 3))
	second.words = w.words
	second.ok(0, api.Call{api.UAdd, 2, 3, 1}, 77, line(0, 2, 1, 3))
	w.insert(2, entryOf(1, 0, 1))
	second.entries = w.entries
	second.evict(4)
	second.err(0, api.Call{api.UStore, 2, 3, 5}, api.ErrFault)
	w.ok(0, api.Call{api.UAdd, 2, 3, 1}, 78, line(0, 2, 1, 3))
	second.ok(0, api.Call{api.ULoad, 2, 3}, 79, line(0, 2, 1, 1))
	w.finish("the first one")
	second.finish("the second one")
}

// Two memories are each its own.
func TestDoOfTwoMemories(t *testing.T) {
	w, second := made(t, 2), made(t, 2)
	w.insert(2, entryOf(1, 0, 3))
	second.b, second.p, second.entries = w.b, w.p, w.entries
	w.ok(0, api.Call{api.UStore, 2, 3, 77}, 0, line(0, 2, 1, 3))
	second.places, second.filled, second.fills = w.places, w.filled, w.fills
	second.ok(0, api.Call{api.UAdd, 2, 3, 1}, 0, line(0, 2, 1, 3))
	w.ok(0, api.Call{api.ULoad, 2, 3}, 77, line(0, 2, 1, 3))
}
