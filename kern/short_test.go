package kern

import (
	"testing"

	"messuage/api"
)

// move is one step, or what is none.
type move func(b *bench)

func begins(core, env int, words ...uint64) move {
	return func(b *bench) { b.begin(core, env, call(words...)) }
}

func steps(core int) move { return func(b *bench) { b.step(core) } }

func posts(core int) move { return func(b *bench) { b.post(core) } }

func evicts(core, set, way int) move { return func(b *bench) { b.evict(core, set, way) } }

// everyRow does each row of so many of these moves, each on a bench of its own
// that was set up, and then goes on until all have ended that may.
func everyRow(t *testing.T, long int, set func() *bench, moves ...move) {
	t.Helper()
	rows := 1
	for range long {
		rows *= len(moves)
	}
	for row := range rows {
		b := set()
		for left, n := row, 0; n < long; left, n = left/len(moves), n+1 {
			moves[left%len(moves)](b)
		}
		b.settle()
	}
}

// shared is a kernel of three cores, of whose frame 0 environment 0 has slot 0
// and page 1, and environment 1 slot 2, which came from that, and page 5. Core 1
// has both pages in its buffer, core 2 has the second one.
func shared(t *testing.T) *bench {
	t.Helper()
	b := made(t, 3, 2, 3)
	b.quiet = true
	b.well(0, 0, []uint64{api.CAlloc, 0}, []uint64{api.CMap, 1, 0, 3}, []uint64{api.CGrant, 0, 1, 2, 3})
	b.well(0, 1, []uint64{api.CMap, 5, 2, 3})
	b.well(1, 0, []uint64{api.UStore, 1, 3, 7})
	b.well(1, 1, []uint64{api.UAdd, 5, 3, 1})
	b.well(2, 1, []uint64{api.ULoad, 5, 3})
	b.quiet = false
	b.expect("shared")
	return b
}

// takers are calls of environment 0 that take pages of what shared makes.
func takers() map[string][]uint64 {
	return map[string][]uint64{
		"CUnmap":            {api.CUnmap, 1},
		"CProtect to read":  {api.CProtect, 1, 1},
		"CProtect to write": {api.CProtect, 1, 2},
		"CRevoke":           {api.CRevoke, 0},
		"CDrop":             {api.CDrop, 0},
	}
}

// Each taker against loads and stores on other cores, and what their buffers
// lose meanwhile.
func TestEveryRowOfLoadsAmidst(t *testing.T) {
	for name, c := range takers() {
		t.Run(name, func(t *testing.T) {
			t.Parallel()
			everyRow(t, 4, func() *bench {
				b := shared(t)
				b.begin(0, 0, call(c...))
				return b
			}, steps(0), begins(1, 0, api.UAdd, 1, 3, 5), begins(1, 1, api.ULoad, 5, 3), steps(1), posts(1), begins(2, 0, api.UStore, 1, 3, 9), steps(2), posts(2), evicts(1, 1, 0))
		})
	}
}

// Each taker against each other one, with loads between.
func TestEveryRowOfTwoTakers(t *testing.T) {
	for name, c := range takers() {
		for other, d := range takers() {
			t.Run(name+" and "+other, func(t *testing.T) {
				t.Parallel()
				everyRow(t, 4, func() *bench {
					b := shared(t)
					b.begin(0, 0, call(c...))
					b.begin(2, 0, call(d...))
					return b
				}, steps(0), steps(2), posts(1), posts(2), begins(1, 0, api.UStore, 1, 3, 9), steps(1))
			})
		}
	}
}
