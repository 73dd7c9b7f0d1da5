package user

import (
	"testing"

	"messuage/api"
	"messuage/table"
	"messuage/tlb"
)

// found does a Walk that should tell l.
func (w *world) found(env, page, kind int, l api.Line) {
	w.t.Helper()
	if got, ok := w.walk(env, page, kind); got != l || !ok {
		w.t.Fatalf("Walk %d, %d, %d: %v, %v, not %v", env, page, kind, got, ok, l)
	}
}

// not does a Walk that should find nothing.
func (w *world) not(env, page, kind int) {
	w.t.Helper()
	if got, ok := w.walk(env, page, kind); got != (api.Line{}) || ok {
		w.t.Fatalf("Walk %d, %d, %d: %v, %v, not zero, false", env, page, kind, got, ok)
	}
}

// has holds the buffer's places, set by set, against ls.
func (w *world) has(ls ...api.Line) {
	w.t.Helper()
	for i, got := range w.b.Lines() {
		if got != ls[i] {
			w.t.Fatalf("place %d: %v, not %v", i, got, ls[i])
		}
	}
}

func TestLimits(t *testing.T) {
	for i, n := range []int{api.MaxEnvs - 4, api.Pages - 8, api.Words - 16, api.MaxFrames - 16, api.Sets - 4, api.Ways - 2, api.ULoad - 20, api.UStore - 21, api.UCas - 22, api.UAdd - 23} {
		if n != 0 {
			t.Errorf("limit %d: beside by %d", i, n)
		}
	}
}

// The buffer's entry, if it lets the kind, whatever the table has.
func TestWalkByTheBuffer(t *testing.T) {
	for _, p := range []api.Pte{{}, entryOf(5, 0, 1), entryOf(5, 0, 2), entryOf(5, 0, 3), entryOf(7, 1, 1), entryOf(7, 1, 2), entryOf(7, 7, 3), entryOf(0, 0, 3)} {
		w := made(t, 1)
		w.fill(line(1, 2, 5, 3))
		w.fill(line(1, 6, 4, 1))
		w.fill(line(1, 3, 8, 2))
		w.insert(2, p)
		w.insert(6, p)
		w.insert(3, p)
		for range 3 {
			for _, kind := range users() {
				w.found(1, 2, kind, line(1, 2, 5, 3))
			}
			w.found(1, 6, api.ULoad, line(1, 6, 4, 1))
			w.found(1, 3, api.UStore, line(1, 3, 8, 2))
			w.has(gone, gone, gone, gone, line(1, 2, 5, 3), line(1, 6, 4, 1), line(1, 3, 8, 2), gone)
		}
		w.finish("Walk")
	}
}

// What Walk finds in the buffer is not filled again: it does not become the
// later one.
func TestWalkByTheBufferIsNoFill(t *testing.T) {
	w := made(t, 1)
	w.fill(line(0, 1, 2, 3))
	w.fill(line(0, 5, 3, 3))
	w.insert(1, entryOf(2, 0, 3))
	w.found(0, 1, api.ULoad, line(0, 1, 2, 3))
	w.fill(line(2, 1, 4, 1))
	w.has(gone, gone, line(2, 1, 4, 1), line(0, 5, 3, 3), gone, gone, gone, gone)
}

// A buffer's entry of another environment, or of another page, is none.
func TestWalkByItsOwnEntryAlone(t *testing.T) {
	for env := range 4 {
		for page := range 8 {
			for _, l := range []api.Line{line((env+1)%4, page, 5, 3), line(env, (page+4)%8, 5, 3), line(env, (page+1)%8, 5, 3), line((env+2)%4, (page+4)%8, 5, 3)} {
				w := made(t, 1)
				w.fill(l)
				w.not(env, page, api.ULoad)
				w.insert(page, entryOf(6, 3, 1))
				w.found(env, page, api.ULoad, line(env, page, 6, 1))
				w.found(l.Env, l.Page, api.UAdd, l)
				w.finish("Walk")
			}
		}
	}
}

// A buffer that has less than the table: its entry is replaced where it is.
func TestWalkByTheTableWhereTheBufferHasLess(t *testing.T) {
	w := made(t, 1)
	w.fill(line(1, 2, 5, 1))
	w.fill(line(1, 6, 6, 3))
	w.insert(2, entryOf(7, 1, 3))
	w.found(1, 2, api.UStore, line(1, 2, 7, 3))
	w.has(gone, gone, gone, gone, line(1, 2, 7, 3), line(1, 6, 6, 3), gone, gone)
	w.insert(2, api.Pte{})
	w.found(1, 2, api.UAdd, line(1, 2, 7, 3))
	w.fill(line(0, 2, 4, 1))
	w.has(gone, gone, gone, gone, line(1, 2, 7, 3), line(0, 2, 4, 1), gone, gone)
}

// The table's Rights are all in the buffer then, not those that the kind needs
// alone; and not those that the buffer had besides.
func TestWalkFillsWithTheTablesRights(t *testing.T) {
	w := made(t, 1)
	w.insert(0, entryOf(3, 2, 3))
	w.found(2, 0, api.ULoad, line(2, 0, 3, 3))
	w.insert(0, api.Pte{})
	w.found(2, 0, api.UCas, line(2, 0, 3, 3))
	w.fill(line(2, 1, 3, 1))
	w.insert(1, entryOf(3, 2, 2))
	w.found(2, 1, api.UStore, line(2, 1, 3, 2))
	w.insert(1, api.Pte{})
	w.not(2, 1, api.ULoad)
	w.finish("Walk")
}

// Where the buffer has none, the table's fills the first place of its set that
// is empty, else the one that was filled longest ago.
func TestWalkFillsAsTheBufferDoes(t *testing.T) {
	w := made(t, 1)
	for page := range 8 {
		w.insert(page, entryOf(page+8, page, 3))
	}
	w.found(0, 3, api.ULoad, line(0, 3, 11, 3))
	w.found(0, 7, api.ULoad, line(0, 7, 15, 3))
	w.has(gone, gone, gone, gone, gone, gone, line(0, 3, 11, 3), line(0, 7, 15, 3))
	w.found(1, 3, api.ULoad, line(1, 3, 11, 3))
	w.has(gone, gone, gone, gone, gone, gone, line(1, 3, 11, 3), line(0, 7, 15, 3))
	w.found(2, 7, api.ULoad, line(2, 7, 15, 3))
	w.has(gone, gone, gone, gone, gone, gone, line(1, 3, 11, 3), line(2, 7, 15, 3))
	w.evict(7)
	w.found(3, 3, api.UAdd, line(3, 3, 11, 3))
	w.found(3, 7, api.UAdd, line(3, 7, 15, 3))
	w.has(gone, gone, gone, gone, gone, gone, line(3, 7, 15, 3), line(3, 3, 11, 3))
	w.finish("Walk")
}

// Every entry of every environment, on its way from the table to the buffer.
func TestWalkOfEachEntry(t *testing.T) {
	for env := range 4 {
		for page := range 8 {
			for frame := range 16 {
				for rights := 1; rights <= 3; rights++ {
					w := made(t, 1)
					w.insert(page, entryOf(frame, (env+page+frame)%8, rights))
					kind := []int{api.ULoad, api.UStore, api.UCas}[rights-1]
					w.found(env, page, kind, line(env, page, frame, rights))
					w.insert(page, api.Pte{})
					w.found(env, page, kind, line(env, page, frame, rights))
				}
			}
		}
	}
}

// Neither lets it: the buffer's entry is gone, that one alone, though the table
// has one.
func TestWalkFlushes(t *testing.T) {
	for _, p := range []api.Pte{{}, entryOf(5, 0, 1), entryOf(9, 4, 1)} {
		w := made(t, 1)
		w.fill(line(1, 2, 5, 1))
		w.fill(line(0, 2, 5, 1))
		w.fill(line(1, 1, 5, 1))
		w.insert(2, p)
		w.not(1, 2, api.UStore)
		w.has(gone, gone, line(1, 1, 5, 1), gone, gone, line(0, 2, 5, 1), gone, gone)
		w.not(1, 2, api.UStore)
		w.has(gone, gone, line(1, 1, 5, 1), gone, gone, line(0, 2, 5, 1), gone, gone)
		w.finish("Walk")
	}
}

// The entry that is flushed for a store would have let a load: it finds the
// table's then.
func TestWalkBehindAFlush(t *testing.T) {
	w := made(t, 1)
	w.fill(line(3, 4, 5, 1))
	w.insert(4, entryOf(8, 1, 1))
	w.found(3, 4, api.ULoad, line(3, 4, 5, 1))
	w.not(3, 4, api.UAdd)
	w.found(3, 4, api.ULoad, line(3, 4, 8, 1))
	w.insert(4, api.Pte{})
	w.not(3, 4, api.UCas)
	w.not(3, 4, api.ULoad)
	w.finish("Walk")
}

// beside are worlds in which the buffer has these rights of that page (0: no
// entry), in the first place of its set or in the second, alone or not.
func beside(t *testing.T, env, page, rights int) []*world {
	t.Helper()
	other := line((env+1)%4, page, 2, 3)
	var ws []*world
	for n := range 4 {
		w := made(t, 1)
		if n == 1 || n == 3 {
			w.fill(other)
		}
		if rights != 0 {
			w.fill(line(env, page, 5, rights))
		}
		if n == 2 {
			w.fill(other)
		}
		if n == 3 {
			w.evict(page % 4 * 2)
		}
		ws = append(ws, w)
	}
	return ws
}

// Each kind, what is none with them, of each rights in the buffer and each in
// the table.
func TestWalkOfEachKindAndRights(t *testing.T) {
	for n, kind := range append(users(), others()...) {
		env, page := n%4, n*3%8
		for had := range 4 {
			for has := range 4 {
				for _, w := range beside(t, env, page, had) {
					if has != 0 {
						w.insert(page, entryOf(6, 1, has))
					}
					w.walk(env, page, kind)
					w.walk(env, page, kind)
					w.finish("Walk")
				}
			}
		}
	}
}

// A kind that is none finds nothing, whatever there is, and the entry goes.
func TestWalkOfAWrongKind(t *testing.T) {
	for _, kind := range others() {
		w := made(t, 1)
		w.fill(line(0, 0, 5, 3))
		w.fill(line(0, 4, 5, 3))
		w.insert(0, entryOf(5, 0, 3))
		w.not(0, 0, kind)
		w.has(gone, line(0, 4, 5, 3), gone, gone, gone, gone, gone, gone)
	}
}

// filled is a world of eight entries in the buffer and eight in the table, all
// of all rights.
func filled(t *testing.T) *world {
	t.Helper()
	w := made(t, 2)
	for page := range 8 {
		w.insert(page, entryOf(page, page, 3))
		w.fill(line(page%3, page, 8+page, 3))
	}
	return w
}

// There is no such page: nothing is found, and nothing turns by it.
func TestWalkOfAWrongPage(t *testing.T) {
	w := filled(t)
	for _, page := range wrong(api.Pages) {
		for _, env := range append(wrong(api.MaxEnvs), 0, 1, 2, 3) {
			w.not(env, page, api.ULoad)
			w.not(env, page, api.UAdd)
		}
	}
	w.finish("Walk")
}

// No buffer has an entry of such an environment, nor takes one; the table has
// one all the same.
func TestWalkOfAWrongEnvironment(t *testing.T) {
	w := filled(t)
	for _, env := range wrong(api.MaxEnvs) {
		w.found(env, 2, api.ULoad, line(env, 2, 2, 3))
		w.found(env, 7, api.UCas, line(env, 7, 7, 3))
		w.not(env, 2, api.CMap)
	}
	w.insert(5, api.Pte{})
	for _, env := range wrong(api.MaxEnvs) {
		w.not(env, 5, api.ULoad)
	}
	w.finish("Walk")
}

// By no buffer it goes by the table each time, as this is then.
func TestWalkWithoutABuffer(t *testing.T) {
	w := made(t, 1).withoutBuffer()
	w.not(0, 2, api.ULoad)
	w.insert(2, entryOf(7, 1, 3))
	w.found(0, 2, api.UAdd, line(0, 2, 7, 3))
	w.insert(2, entryOf(4, 1, 1))
	w.found(0, 2, api.ULoad, line(0, 2, 4, 1))
	w.not(0, 2, api.UAdd)
	w.insert(2, api.Pte{})
	w.not(0, 2, api.ULoad)
	w.finish("Walk")
}

// By no table it goes by the buffer alone, and that loses what does not let.
func TestWalkWithoutATable(t *testing.T) {
	w := made(t, 1).withoutTable()
	w.not(1, 2, api.ULoad)
	w.fill(line(1, 2, 5, 1))
	w.fill(line(1, 6, 5, 3))
	w.found(1, 2, api.ULoad, line(1, 2, 5, 1))
	w.not(1, 2, api.UStore)
	w.not(1, 2, api.ULoad)
	w.found(1, 6, api.UStore, line(1, 6, 5, 3))
	w.has(gone, gone, gone, gone, gone, line(1, 6, 5, 3), gone, gone)
	w.finish("Walk")
}

func TestWalkWithoutAnything(t *testing.T) {
	w := made(t, 1).withoutBuffer().withoutTable()
	for _, env := range append(wrong(api.MaxEnvs), 0, 1, 2, 3) {
		for _, page := range append(wrong(api.Pages), 0, 3, 7) {
			for _, kind := range append(users(), -1, api.CMap, 24) {
				w.not(env, page, kind)
			}
		}
	}
}

// Two buffers over one table are each its own.
func TestWalkOfTwoBuffers(t *testing.T) {
	w, p := made(t, 1), table.New()
	p.Insert(2, entryOf(7, 1, 3))
	w.p, w.entries[2] = p, entryOf(7, 1, 3)
	w.found(0, 2, api.ULoad, line(0, 2, 7, 3))
	p.Protect(2, 1)
	second := made(t, 1)
	second.p, second.entries[2] = p, entryOf(7, 1, 1)
	second.not(0, 2, api.UStore)
	second.found(0, 2, api.ULoad, line(0, 2, 7, 1))
	w.entries[2] = entryOf(7, 1, 1)
	w.found(0, 2, api.UStore, line(0, 2, 7, 3))
	second.not(0, 2, api.UStore)
	w.finish("the first one")
	second.finish("the second one")
}

// One buffer over two tables keeps their environments apart.
func TestWalkOfTwoTables(t *testing.T) {
	b, p, q := tlb.New(), table.New(), table.New()
	p.Insert(2, entryOf(7, 1, 1))
	q.Insert(2, entryOf(8, 1, 3))
	for range 3 {
		if l, ok := Walk(b, p, 0, 2, api.ULoad); l != line(0, 2, 7, 1) || !ok {
			t.Errorf("by the first one: %v, %v", l, ok)
		}
		if l, ok := Walk(b, q, 1, 2, api.UAdd); l != line(1, 2, 8, 3) || !ok {
			t.Errorf("by the second one: %v, %v", l, ok)
		}
	}
	if l, ok := Walk(b, p, 0, 2, api.UAdd); ok {
		t.Errorf("by the first one: %v", l)
	}
	if l, ok := b.Find(1, 2); l != line(1, 2, 8, 3) || !ok {
		t.Errorf("behind it: %v, %v", l, ok)
	}
}
