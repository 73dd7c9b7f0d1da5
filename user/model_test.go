package user

import (
	"math"
	"slices"
	"testing"

	"messuage/api"
	"messuage/mem"
	"messuage/table"
	"messuage/tlb"
)

// world is a buffer, a table and a memory, each of which may be nil, and beside
// them what they should be.
type world struct {
	t *testing.T
	b *tlb.Tlb
	p *table.Table
	m *mem.Mem

	places  [8]api.Line // as Lines tells them
	filled  [8]int      // which fill it was, of the places that are not empty
	fills   int
	entries [8]api.Pte // Rights 0: none
	words   [][16]uint64
}

var gone = api.Line{Env: -1}

// made is a world of an empty buffer, an empty table and so many frames.
func made(t *testing.T, frames int) *world {
	t.Helper()
	w := &world{t: t, b: tlb.New(), p: table.New(), m: mem.New(frames), words: make([][16]uint64, frames)}
	if w.m == nil {
		t.Fatalf("mem.New %d: nil", frames)
	}
	w.empty()
	return w
}

func (w *world) empty() {
	for i := range w.places {
		w.places[i] = gone
	}
}

// withoutBuffer, withoutTable and withoutMem make that part of w nil.
func (w *world) withoutBuffer() *world {
	w.b = nil
	w.empty()
	return w
}

func (w *world) withoutTable() *world {
	w.p, w.entries = nil, [8]api.Pte{}
	return w
}

func (w *world) withoutMem() *world {
	w.m, w.words = nil, nil
	return w
}

func line(env, page, frame, rights int) api.Line {
	return api.Line{Env: env, Page: page, Frame: frame, Rights: rights}
}

func entryOf(frame, slot, rights int) api.Pte {
	return api.Pte{Frame: frame, Slot: slot, Rights: rights}
}

// lets is which rights are enough for which kind.
func lets(rights, kind int) bool {
	switch kind {
	case 20:
		return rights == 1 || rights == 3
	case 21:
		return rights == 2 || rights == 3
	case 22, 23:
		return rights == 3
	}
	return false
}

// place is where the entry of that environment and page should be.
func (w *world) place(env, page int) int {
	return slices.IndexFunc(w.places[:], func(l api.Line) bool {
		return l != gone && l.Env == env && l.Page == page
	})
}

// free is where an entry of that page that is not there should go.
func (w *world) free(page int) int {
	first := page % 4 * 2
	second := first + 1
	switch {
	case w.places[first] == gone:
		return first
	case w.places[second] == gone:
		return second
	case w.filled[first] < w.filled[second]:
		return first
	}
	return second
}

// put is a Fill of what should be, of a right entry.
func (w *world) put(l api.Line) {
	at := w.place(l.Env, l.Page)
	if at < 0 {
		at = w.free(l.Page)
	}
	w.fills++
	w.places[at], w.filled[at] = l, w.fills
}

// fill is a Fill of a right entry from outside.
func (w *world) fill(l api.Line) {
	w.t.Helper()
	if !w.b.Fill(l) {
		w.t.Fatalf("Fill %v: false", l)
	}
	w.put(l)
}

// evict is an Evict of one place from outside.
func (w *world) evict(place int) {
	w.b.Evict(place/2, place%2)
	w.places[place] = gone
}

// insert puts p in place of whatever entry that page has; of no rights: none.
func (w *world) insert(page int, p api.Pte) {
	w.t.Helper()
	w.p.Remove(page)
	if p.Rights != 0 && w.p.Insert(page, p) != api.OK {
		w.t.Fatalf("Insert %d, %v", page, p)
	}
	w.entries[page] = p
}

// store puts v there from outside.
func (w *world) store(frame, at int, v uint64) {
	w.t.Helper()
	if !w.m.Store(frame, at, v) {
		w.t.Fatalf("Store %d, %d", frame, at)
	}
	w.words[frame][at] = v
}

// fullMem has all words of w's memory be other ones.
func (w *world) fullMem() *world {
	w.t.Helper()
	for frame := range w.words {
		for at := range w.words[frame] {
			w.store(frame, at, uint64(1000+100*frame+at))
		}
	}
	return w
}

// walks is what Walk should tell, and have changed.
func (w *world) walks(env, page, kind int) (api.Line, bool) {
	at := w.place(env, page)
	if at >= 0 && lets(w.places[at].Rights, kind) {
		return w.places[at], true
	}
	if page >= 0 && page < 8 && lets(w.entries[page].Rights, kind) {
		l := line(env, page, w.entries[page].Frame, w.entries[page].Rights)
		if w.b != nil && env >= 0 && env < 4 {
			w.put(l)
		}
		return l, true
	}
	if at >= 0 {
		w.places[at] = gone
	}
	return api.Line{}, false
}

// does is what Do should tell, and have changed.
func (w *world) does(env int, c api.Call) (api.Answer, api.Line) {
	switch {
	case env < 0 || env > 3:
		return api.Answer{Err: 10}, api.Line{}
	case c[0] < 20 || c[0] > 23:
		return api.Answer{Err: 1}, api.Line{}
	case c[1] > 7 || c[2] > 15:
		return api.Answer{Err: 2}, api.Line{}
	}
	l, ok := w.walks(env, int(c[1]), int(c[0]))
	if !ok {
		return api.Answer{Err: 7}, api.Line{}
	}
	if l.Frame >= len(w.words) {
		return api.Answer{}, l
	}
	word := &w.words[l.Frame][c[2]]
	was := *word
	switch c[0] {
	case 21:
		*word, was = c[3], 0
	case 22:
		if was == c[3] {
			*word = c[4]
		}
	case 23:
		*word += c[3]
	}
	return api.Answer{Val: was}, l
}

// walk does a Walk, and holds what it tells, and all that it left, against what
// it should.
func (w *world) walk(env, page, kind int) (api.Line, bool) {
	w.t.Helper()
	want, right := w.walks(env, page, kind)
	l, ok := Walk(w.b, w.p, env, page, kind)
	if l != want || ok != right {
		w.t.Fatalf("Walk %d, %d, %d: %v, %v, not %v, %v", env, page, kind, l, ok, want, right)
	}
	w.expect("Walk")
	return l, ok
}

// do does a Do, likewise.
func (w *world) do(env int, c api.Call) (api.Answer, api.Line) {
	w.t.Helper()
	answer, want := w.does(env, c)
	a, l := Do(w.b, w.p, w.m, env, c)
	if a != answer || l != want {
		w.t.Fatalf("Do %d, %v: %v, %v, not %v, %v", env, c, a, l, answer, want)
	}
	w.expect("Do")
	return a, l
}

// expect holds all that is to be seen of w's parts against what they should be.
func (w *world) expect(what string) {
	w.t.Helper()
	w.expectBuffer(what)
	w.expectTable(what)
	for frame := range w.words {
		if got := w.m.Frame(frame); !slices.Equal(got, w.words[frame][:]) {
			w.t.Fatalf("%s: frame %d: %v, not %v", what, frame, got, w.words[frame])
		}
	}
}

func (w *world) expectBuffer(what string) {
	w.t.Helper()
	if w.b == nil {
		return
	}
	if got := w.b.Lines(); !slices.Equal(got, w.places[:]) {
		w.t.Fatalf("%s: the buffer: %v, not %v", what, got, w.places)
	}
}

func (w *world) expectTable(what string) {
	w.t.Helper()
	for page, want := range w.entries {
		if got, ok := w.p.At(page); got != want || ok != (want.Rights != 0) {
			w.t.Fatalf("%s: the table, page %d: %v, %v, not %v", what, page, got, ok, want)
		}
	}
}

// finish is expect, and then shows by Fills which place of each set was filled
// longest ago.
func (w *world) finish(what string) {
	w.t.Helper()
	w.expect(what)
	if w.b == nil {
		return
	}
	for set := range 4 {
		for page := set; page < 8; page += 4 {
			for env := range 4 {
				if w.place(env, page) < 0 {
					w.fill(line(env, page, 1, 1))
					w.expect(what + ", and Fill")
				}
			}
		}
	}
}

// under are numbers that no environment, page, kind and place are, those with
// them that become a right one when they lose their upper bits.
func under() []int {
	return []int{math.MinInt, math.MinInt + 1, math.MinInt + 2, math.MinInt + 20, -1 << 32, -1<<32 + 1, -1<<32 + 2, -1<<32 + 20, -256, -254, -236, -20, -16, -9, -8, -7, -6, -4, -3, -2, -1}
}

// beyond are the first number that is not below most, and some from there on.
func beyond(most int) []int {
	return []int{most, most + 1, most + 2, 2 * most, 2*most + 1, 64, 255, 256, 257, 258, 256 + 20, 1 << 16, 1<<16 + 20, 1 << 31, 1 << 32, 1<<32 + 1, 1<<32 + 2, 1<<32 + 20, 1 << 60, 1<<60 + 2, 1 << 62, math.MaxInt - 7, math.MaxInt - 1, math.MaxInt}
}

func wrong(most int) []int { return append(under(), beyond(most)...) }

// wrongWords are words that no page or place is where it must be below most.
func wrongWords(most int) []uint64 {
	words := []uint64{math.MaxUint64, math.MaxUint64 - 1, math.MaxUint64 - 7, math.MaxUint64 - 15}
	for _, n := range wrong(most) {
		words = append(words, uint64(n))
	}
	return words
}

func users() []int { return []int{api.ULoad, api.UStore, api.UCas, api.UAdd} }

// others are kinds that are neither a load nor a store, those of all other
// calls among them.
func others() []int {
	kinds := under()
	for kind := range api.ULoad {
		kinds = append(kinds, kind)
	}
	return append(kinds, beyond(api.UAdd+1)...)
}
