package user

import (
	"testing"

	"messuage/api"
)

// moves are what a short row is made of: two pages of one set, two
// environments, each kind of rights.
func moves() []func(w *world) {
	ms := []func(w *world){
		func(w *world) { w.insert(1, entryOf(1, 0, 1)) },
		func(w *world) { w.insert(1, entryOf(0, 0, 3)) },
		func(w *world) { w.insert(1, api.Pte{}) },
		func(w *world) { w.insert(5, entryOf(1, 1, 2)) },
		func(w *world) { w.evict(2) },
		func(w *world) { w.walk(0, 1, api.ULoad) },
		func(w *world) { w.walk(1, 5, api.UCas) },
	}
	for _, env := range []int{0, 1} {
		for _, c := range []api.Call{{api.ULoad, 1, 2}, {api.UAdd, 1, 2, 1}, {api.UStore, 5, 2, 40}} {
			ms = append(ms, func(w *world) { w.do(env, c) })
		}
	}
	return ms
}

// Every row of four moves.
func TestShortRows(t *testing.T) {
	ms := moves()
	n := len(ms)
	for row := range n * n * n * n {
		w := made(t, 2)
		for left, times := row, 0; times < 4; left, times = left/n, times+1 {
			ms[left%n](w)
		}
		w.finish("a row")
	}
}

// mixed are numbers that are well mixed, the same ones each time.
type mixed uint64

func (x *mixed) below(n int) int {
	*x = *x*6364136223846793005 + 1442695040888963407
	return int(uint64(*x)>>33) % n
}

// among is mostly a number below most, at times a wrong one.
func (x *mixed) among(most int, wrong []int) int {
	if x.below(12) == 0 {
		return wrong[x.below(len(wrong))]
	}
	return x.below(most)
}

func (x *mixed) call() api.Call {
	c := api.Call{uint64(20 + x.among(4, wrong(4))), uint64(x.among(8, wrong(8))), uint64(x.among(16, wrong(16)))}
	c[3] = values()[x.below(len(values()))]
	c[4] = uint64(x.below(3))
	return c
}

// One long row of calls, with changes of the table and the buffer between.
func TestALongRow(t *testing.T) {
	for seed := range 6 {
		x := mixed(seed)
		w := made(t, 1+3*seed)
		for range 8000 {
			switch x.below(6) {
			case 0:
				w.insert(x.below(8), entryOf(x.below(16), x.below(8), 1+x.below(3)))
			case 1:
				w.insert(x.below(8), api.Pte{})
			case 2:
				w.evict(x.below(8))
			case 3:
				w.walk(x.among(4, wrong(4)), x.among(8, wrong(8)), 20+x.among(4, wrong(4)))
			default:
				w.do(x.among(4, wrong(4)), x.call())
			}
		}
		w.finish("a long row")
	}
}
