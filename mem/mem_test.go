package mem

import (
	"math"
	"slices"
	"testing"

	"messuage/api"
)

// numbers are words of which some lose their upper bits or their sign where
// they are kept as less than 64 bits.
func numbers() []uint64 {
	return []uint64{0, 1, 2, 7, 255, 256, 1<<31 - 1, 1 << 31, 1<<32 - 1, 1 << 32, 1<<53 + 1, 1<<63 - 1, 1 << 63, 1<<63 + 1, math.MaxUint64 - 1, math.MaxUint64}
}

// below are numbers that no frame and no place has, whatever the memory.
func below() []int {
	return []int{math.MinInt, math.MinInt + 1, math.MinInt + 16, -1 << 32, -1<<32 + 1, -17, -16, -15, -2, -1}
}

// beyond are the first one that is not below most, and some from there on,
// those with them that become a right one when they lose their upper bits.
func beyond(most int) []int {
	return []int{most, most + 1, most + 16, 99, 256, 1 << 16, 1 << 31, 1 << 32, 1<<32 + 1, 1 << 60, 1<<60 + 1, 1 << 62, math.MaxInt - 15, math.MaxInt - 1, math.MaxInt}
}

// wrong are all of them.
func wrong(most int) []int { return append(below(), beyond(most)...) }

// mark is another word for each frame and place, and none is 0.
func mark(frame, at int) uint64 { return math.MaxUint64 - uint64(frame*100+at) }

// marked is a memory whose words are their marks.
func marked(t *testing.T, frames int) *Mem {
	t.Helper()
	m := New(frames)
	for f := range frames {
		for at := range api.Words {
			if !m.Store(f, at, mark(f, at)) {
				t.Fatalf("Store %d, %d of %d frames", f, at, frames)
			}
		}
	}
	return m
}

// expect holds all words of m against what want tells of them, both by Load
// and by Frame.
func expect(t *testing.T, what string, m *Mem, frames int, want func(frame, at int) uint64) {
	t.Helper()
	if got := m.Frames(); got != frames {
		t.Fatalf("%s: Frames: %d, not %d", what, got, frames)
	}
	for f := range frames {
		words := m.Frame(f)
		if len(words) != api.Words {
			t.Fatalf("%s: Frame %d: %d words", what, f, len(words))
		}
		for at := range api.Words {
			w := want(f, at)
			if got, ok := m.Load(f, at); got != w || !ok {
				t.Errorf("%s: Load %d, %d: %d, %v, not %d", what, f, at, got, ok, w)
			}
			if words[at] != w {
				t.Errorf("%s: Frame %d: %d at %d, not %d", what, f, words[at], at, w)
			}
		}
	}
}

// but is mark, with another word at that place.
func but(frame, at int, v uint64) func(frame, at int) uint64 {
	return func(f, a int) uint64 {
		if f == frame && a == at {
			return v
		}
		return mark(f, a)
	}
}

func zeros(frame, at int) uint64 { return 0 }

func TestLimits(t *testing.T) {
	if api.MaxFrames != 16 || api.Words != 16 {
		t.Errorf("%d frames of %d words", api.MaxFrames, api.Words)
	}
}

func TestNew(t *testing.T) {
	for frames := 1; frames <= 16; frames++ {
		m := New(frames)
		if m == nil {
			t.Fatalf("New of %d", frames)
		}
		expect(t, "New", m, frames, zeros)
		if _, ok := m.Load(frames, 0); ok {
			t.Errorf("New of %d: a frame more", frames)
		}
	}
}

func TestNewOfWrongSizes(t *testing.T) {
	for _, frames := range append(below(), 0, 17, 18, 32, 256, 257, 1<<32, 1<<32+1, math.MaxInt-1, math.MaxInt) {
		if m := New(frames); m != nil {
			t.Errorf("New of %d", frames)
		}
	}
}

func TestNewIsNewMemory(t *testing.T) {
	a, b := New(2), New(2)
	a.Store(1, 3, 9)
	expect(t, "the other one", b, 2, zeros)
	expect(t, "one made behind it", New(2), 2, zeros)
}

func TestStoreAndLoadOfEachPlace(t *testing.T) {
	for _, frames := range []int{1, 2, 15, 16} {
		expect(t, "marked", marked(t, frames), frames, mark)
	}
}

func TestStoreOfAnyWord(t *testing.T) {
	for _, frames := range []int{1, 3, 16} {
		for _, x := range [][2]int{{0, 0}, {0, 15}, {frames - 1, 0}, {frames - 1, 15}} {
			m := marked(t, frames)
			for _, v := range numbers() {
				if !m.Store(x[0], x[1], v) {
					t.Errorf("Store of %d at %v", v, x)
				}
				expect(t, "Store", m, frames, but(x[0], x[1], v))
			}
		}
	}
}

func TestLoadChangesNothing(t *testing.T) {
	m := marked(t, 2)
	for range 3 {
		if v, ok := m.Load(1, 15); v != mark(1, 15) || !ok {
			t.Errorf("Load: %d, %v", v, ok)
		}
	}
	expect(t, "Load", m, 2, mark)
}

func TestCasOfWhatIsThere(t *testing.T) {
	for _, old := range numbers() {
		for _, v := range numbers() {
			m := marked(t, 2)
			m.Store(1, 15, old)
			if was, ok := m.Cas(1, 15, old, v); was != old || !ok {
				t.Errorf("Cas of %d by %d: %d, %v", old, v, was, ok)
			}
			expect(t, "Cas", m, 2, but(1, 15, v))
		}
	}
}

func TestCasOfWhatIsNotThere(t *testing.T) {
	for _, there := range numbers() {
		for _, old := range numbers() {
			if old == there {
				continue
			}
			m := marked(t, 2)
			m.Store(0, 0, there)
			for _, v := range []uint64{0, 1, 9, there + 1, old, math.MaxUint64} {
				if was, ok := m.Cas(0, 0, old, v); was != there || !ok {
					t.Errorf("Cas of %d, not %d: %d, %v", there, old, was, ok)
				}
			}
			expect(t, "Cas", m, 2, but(0, 0, there))
		}
	}
}

func TestCasOnceAndAgain(t *testing.T) {
	m := New(1)
	for _, x := range []struct{ old, new, was, then uint64 }{
		{0, 5, 0, 5},
		{0, 6, 5, 5},
		{5, 5, 5, 5},
		{5, 7, 5, 7},
		{5, 8, 7, 7},
		{7, 0, 7, 0},
		{7, 9, 0, 0},
	} {
		if was, ok := m.Cas(0, 8, x.old, x.new); was != x.was || !ok {
			t.Errorf("Cas of %d by %d: %d, %v", x.old, x.new, was, ok)
		}
		if then, _ := m.Load(0, 8); then != x.then {
			t.Errorf("behind Cas of %d by %d: %d", x.old, x.new, then)
		}
	}
}

func TestAdd(t *testing.T) {
	const most = math.MaxUint64
	for _, x := range []struct{ was, v, then uint64 }{
		{0, 0, 0},
		{0, 1, 1},
		{9, 0, 9},
		{9, 5, 14},
		{1<<32 - 1, 1, 1 << 32},
		{1<<63 - 1, 1, 1 << 63},
		{most - 1, 1, most},
		{0, most, most},
		{most, 0, most},
		{most, 1, 0},
		{most, 2, 1},
		{1, most, 0},
		{14, most, 13},
		{most, most, most - 1},
		{1 << 63, 1 << 63, 0},
		{1<<63 + 1, 1 << 63, 1},
	} {
		for _, at := range [][2]int{{0, 0}, {1, 15}} {
			m := marked(t, 2)
			m.Store(at[0], at[1], x.was)
			if was, ok := m.Add(at[0], at[1], x.v); was != x.was || !ok {
				t.Errorf("Add of %d to %d: %d, %v", x.v, x.was, was, ok)
			}
			expect(t, "Add", m, 2, but(at[0], at[1], x.then))
		}
	}
}

func TestAddOnceAndAgain(t *testing.T) {
	m := New(1)
	for i := range uint64(40) {
		if was, ok := m.Add(0, 3, math.MaxUint64/16); was != i*(math.MaxUint64/16) || !ok {
			t.Errorf("Add the %dth time: %d, %v", i, was, ok)
		}
	}
}

func TestZero(t *testing.T) {
	for _, frames := range []int{1, 2, 16} {
		for frame := range frames {
			m := marked(t, frames)
			for range 2 {
				if !m.Zero(frame) {
					t.Errorf("Zero of %d of %d", frame, frames)
				}
				expect(t, "Zero", m, frames, func(f, at int) uint64 {
					if f == frame {
						return 0
					}
					return mark(f, at)
				})
			}
			if !m.Store(frame, 15, 5) {
				t.Errorf("Store behind Zero of %d", frame)
			}
			if v, ok := m.Load(frame, 15); v != 5 || !ok {
				t.Errorf("Load behind Zero of %d: %d, %v", frame, v, ok)
			}
		}
	}
}

func TestFrameIsACopy(t *testing.T) {
	m := marked(t, 2)
	a, b := m.Frame(0), m.Frame(0)
	for at := range a {
		a[at] = 99
	}
	a = append(a, 98)
	for i, spare := 0, a[:cap(a)]; i < len(spare); i++ {
		spare[i] = 97
	}
	expect(t, "a copy that is written into", m, 2, mark)
	for at, w := range b {
		if w != mark(0, at) {
			t.Errorf("another copy: %d at %d", w, at)
		}
	}
}

// What the spare room of a copy is written with is not seen in the frame
// behind it, or in another copy.
func TestFrameHasItsOwnSpareRoom(t *testing.T) {
	m := marked(t, 3)
	a := m.Frame(0)
	b := m.Frame(1)
	spare := a[:cap(a)]
	for i := range spare {
		spare[i] = 97
	}
	_ = append(a, 96, 95, 94)
	expect(t, "spare room that is written into", m, 3, mark)
	for at, w := range b {
		if w != mark(1, at) {
			t.Errorf("another copy: %d at %d", w, at)
		}
	}
}

func TestFrameStaysAsItWas(t *testing.T) {
	m := marked(t, 2)
	a := m.Frame(1)
	m.Store(1, 0, 1)
	m.Add(1, 1, 1)
	m.Cas(1, 2, mark(1, 2), 1)
	m.Zero(1)
	for at, w := range a {
		if w != mark(1, at) {
			t.Errorf("a copy of ahead: %d at %d", w, at)
		}
	}
}

// refuses asks m for a word that is not there, in each call.
func refuses(t *testing.T, m *Mem, frame, at int) {
	t.Helper()
	if v, ok := m.Load(frame, at); v != 0 || ok {
		t.Errorf("Load %d, %d: %d, %v", frame, at, v, ok)
	}
	if m.Store(frame, at, 1) {
		t.Errorf("Store %d, %d", frame, at)
	}
	for _, old := range []uint64{0, mark(0, 0), mark(0, 15), math.MaxUint64} {
		if v, ok := m.Cas(frame, at, old, 1); v != 0 || ok {
			t.Errorf("Cas %d, %d: %d, %v", frame, at, v, ok)
		}
	}
	if v, ok := m.Add(frame, at, 1); v != 0 || ok {
		t.Errorf("Add %d, %d: %d, %v", frame, at, v, ok)
	}
}

// lacks asks m for a frame that is not there, in each call.
func lacks(t *testing.T, m *Mem, frame int) {
	t.Helper()
	for _, at := range append(wrong(16), 0, 1, 7, 15) {
		refuses(t, m, frame, at)
	}
	if m.Zero(frame) {
		t.Errorf("Zero %d", frame)
	}
	if words := m.Frame(frame); words != nil {
		t.Errorf("Frame %d: %v", frame, words)
	}
}

func TestFramesThatAreNotThere(t *testing.T) {
	for frames := 1; frames <= 16; frames++ {
		m := marked(t, frames)
		for _, frame := range wrong(frames) {
			lacks(t, m, frame)
		}
		expect(t, "frames that are not there", m, frames, mark)
	}
}

func TestPlacesThatAreNotThere(t *testing.T) {
	for _, frames := range []int{1, 2, 16} {
		m := marked(t, frames)
		for frame := range frames {
			for _, at := range wrong(16) {
				refuses(t, m, frame, at)
			}
		}
		expect(t, "places that are not there", m, frames, mark)
	}
}

func TestNil(t *testing.T) {
	var none *Mem
	for _, frame := range append(wrong(16), 0, 1, 15) {
		lacks(t, none, frame)
	}
	if got := none.Frames(); got != 0 {
		t.Errorf("Frames: %d", got)
	}
}

// A Mem that New has not made has no frames, but doesn't panic either.
func TestEmpty(t *testing.T) {
	m := &Mem{}
	for _, frame := range append(wrong(16), 0, 1, 15) {
		lacks(t, m, frame)
	}
	if got := m.Frames(); got != 0 {
		t.Errorf("Frames: %d", got)
	}
}

// next is a short rule for numbers that look unlike one another.
func next(n uint64) uint64 { return n*6364136223846793005 + 1442695040888963407 }

// Long rows of calls are held against what they would do to a list of words.
func TestRowsOfCalls(t *testing.T) {
	n := uint64(1)
	draw := func(most int) int {
		n = next(n)
		return int(n>>33) % most
	}
	for _, frames := range []int{1, 2, 5, 16} {
		m, want := New(frames), make([]uint64, frames*16)
		for range 3000 {
			frame, at := draw(frames), draw(16)
			place := frame*16 + at
			was, v := want[place], numbers()[draw(len(numbers()))]
			got, ok := was, true
			switch draw(10) {
			case 0, 1:
				ok, want[place] = m.Store(frame, at, v), v
			case 2, 3:
				got, ok = m.Cas(frame, at, was, v)
				want[place] = v
			case 4:
				got, ok = m.Cas(frame, at, was+1, v)
			case 5, 6, 7:
				got, ok = m.Add(frame, at, v)
				want[place] = was + v
			case 8:
				got, ok = m.Load(frame, at)
			case 9:
				ok = m.Zero(frame)
				clear(want[frame*16 : frame*16+16])
			}
			if got != was || !ok {
				t.Fatalf("a call at %d, %d: %d, %v, not %d", frame, at, got, ok, was)
			}
			if words := m.Frame(frame); !slices.Equal(words, want[frame*16:frame*16+16]) {
				t.Fatalf("behind a call at %d, %d: %v", frame, at, words)
			}
		}
		expect(t, "a row of calls", m, frames, func(f, at int) uint64 { return want[f*16+at] })
	}
}
