package pte

import (
	"math"
	"testing"

	"messuage/api"
)

// wrongRights are numbers that are no rights (0 among them), those with them
// that become rights when they lose their upper bits or their sign.
func wrongRights() []int {
	return []int{
		math.MinInt, math.MinInt + 1, math.MinInt + 2, math.MinInt + 3, -1 << 32, -1<<32 + 1, -1<<32 + 3, -256, -255, -4, -3, -2, -1,
		0, 4, 5, 6, 7, 8, 11, 16, 17, 255, 256, 257, 259, 1<<16 + 1, 1 << 31, 1 << 32, 1<<32 + 1, 1<<32 + 3, 1<<62 + 3, math.MaxInt - 1, math.MaxInt,
	}
}

// wrongPlaces are numbers that are neither below most nor, as a frame or a slot
// of none, 0.
func wrongPlaces(most int) []int {
	return []int{
		math.MinInt, math.MinInt + 1, -1 << 32, -1<<32 + 1, -256, -most, -most + 1, -2, -1,
		most, most + 1, 2*most - 1, 2 * most, 128, 255, 256, 257, 1 << 16, 1 << 31, 1 << 32, 1<<32 + 1, 1 << 56, 1 << 60, 1 << 62, math.MaxInt - 1, math.MaxInt,
	}
}

// otherKinds are numbers that neither a load nor a store has.
func otherKinds() []int {
	return []int{
		math.MinInt, math.MinInt + api.ULoad, -1 << 32, -23, -22, -21, -20, -1, 0, 1, 2, 3,
		api.CAlloc, api.CDerive, api.CGrant, api.CRevoke, api.CDrop, api.CMap, api.CUnmap, api.CProtect, api.CSleep, api.CYield,
		11, 18, 19, 24, 25, 52, 84, 255, 256 + 20, 256 + 23, 1<<32 + 20, 1<<32 + 21, 1<<32 + 22, 1<<32 + 23, 1<<62 + 20, math.MaxInt - 1, math.MaxInt,
	}
}

// wordOf tells an entry's word by numbers alone, as the chapter does.
func wordOf(p api.Pte) uint64 {
	return uint64(p.Rights + 16*p.Slot + 256*p.Frame + 32768)
}

// entries are all entries that are there.
func entries() []api.Pte {
	var ps []api.Pte
	for frame := range 16 {
		for slot := range 8 {
			for rights := 1; rights <= 3; rights++ {
				ps = append(ps, api.Pte{Frame: frame, Slot: slot, Rights: rights})
			}
		}
	}
	return ps
}

func TestLimits(t *testing.T) {
	if api.RRead != 1 || api.RWrite != 2 || api.Slots != 8 || api.MaxFrames != 16 {
		t.Errorf("rights %d and %d, %d slots, %d frames", api.RRead, api.RWrite, api.Slots, api.MaxFrames)
	}
}

func TestMay(t *testing.T) {
	for _, rights := range []int{1, 2, 3, api.RRead, api.RWrite, api.RRead | api.RWrite} {
		if !May(rights) {
			t.Errorf("May %d", rights)
		}
	}
	for _, rights := range wrongRights() {
		if May(rights) {
			t.Errorf("May %d", rights)
		}
	}
}

func TestWithin(t *testing.T) {
	want := map[[2]int]bool{{1, 1}: true, {1, 3}: true, {2, 2}: true, {2, 3}: true, {3, 3}: true}
	for a := range 5 {
		for b := range 5 {
			if got := Within(a, b); got != want[[2]int{a, b}] {
				t.Errorf("Within %d, %d: %v", a, b, got)
			}
		}
	}
}

func TestWithinOfWrongRights(t *testing.T) {
	for _, wrong := range wrongRights() {
		for rights := 1; rights <= 3; rights++ {
			if Within(wrong, rights) {
				t.Errorf("Within %d, %d", wrong, rights)
			}
			if Within(rights, wrong) {
				t.Errorf("Within %d, %d", rights, wrong)
			}
		}
		for _, other := range wrongRights() {
			if Within(wrong, other) {
				t.Errorf("Within %d, %d", wrong, other)
			}
		}
	}
}

func TestLets(t *testing.T) {
	rows := []struct {
		kind              int
		read, write, both bool
	}{
		{api.ULoad, true, false, true},
		{api.UStore, false, true, true},
		{api.UCas, false, false, true},
		{api.UAdd, false, false, true},
	}
	for _, r := range rows {
		if Lets(1, r.kind) != r.read || Lets(2, r.kind) != r.write || Lets(3, r.kind) != r.both {
			t.Errorf("Lets of %d: %v, %v, %v", r.kind, Lets(1, r.kind), Lets(2, r.kind), Lets(3, r.kind))
		}
	}
}

func TestLetsOfWrongRights(t *testing.T) {
	for _, rights := range wrongRights() {
		for _, kind := range []int{api.ULoad, api.UStore, api.UCas, api.UAdd} {
			if Lets(rights, kind) {
				t.Errorf("Lets %d, %d", rights, kind)
			}
		}
	}
}

func TestLetsOfOtherKinds(t *testing.T) {
	for _, kind := range otherKinds() {
		for rights := 1; rights <= 3; rights++ {
			if Lets(rights, kind) {
				t.Errorf("Lets %d, %d", rights, kind)
			}
		}
		for _, rights := range wrongRights() {
			if Lets(rights, kind) {
				t.Errorf("Lets %d, %d", rights, kind)
			}
		}
	}
}

func TestPut(t *testing.T) {
	rows := []struct {
		p api.Pte
		w uint64
	}{
		{api.Pte{Rights: 1}, 32769},
		{api.Pte{Rights: 2}, 32770},
		{api.Pte{Rights: 3}, 32771},
		{api.Pte{Slot: 1, Rights: 1}, 32785},
		{api.Pte{Slot: 7, Rights: 1}, 32881},
		{api.Pte{Frame: 1, Rights: 1}, 33025},
		{api.Pte{Frame: 15, Rights: 2}, 36610},
		{api.Pte{Frame: 15, Slot: 7, Rights: 3}, 36723},
	}
	for _, r := range rows {
		if w, ok := Put(r.p); w != r.w || !ok {
			t.Errorf("Put %v: %d, %v, not %d", r.p, w, ok, r.w)
		}
	}
}

func TestPutOfEachEntry(t *testing.T) {
	seen := map[uint64]api.Pte{}
	for _, p := range entries() {
		w, ok := Put(p)
		if w != wordOf(p) || !ok {
			t.Errorf("Put %v: %d, %v, not %d", p, w, ok, wordOf(p))
		}
		if q, is := seen[w]; is {
			t.Errorf("Put %v and %v: %d", p, q, w)
		}
		seen[w] = p
	}
	if len(seen) != 16*8*3 {
		t.Errorf("%d words", len(seen))
	}
}

func TestPutOfNone(t *testing.T) {
	if w, ok := Put(api.Pte{}); w != 0 || !ok {
		t.Errorf("Put of none: %d, %v", w, ok)
	}
}

func refused(t *testing.T, p api.Pte) {
	t.Helper()
	if w, ok := Put(p); w != 0 || ok {
		t.Errorf("Put %v: %d, %v", p, w, ok)
	}
}

func TestPutOfNoneWithAFrameOrASlot(t *testing.T) {
	for frame := range 16 {
		for slot := range 8 {
			if frame != 0 || slot != 0 {
				refused(t, api.Pte{Frame: frame, Slot: slot})
			}
		}
	}
	for _, frame := range wrongPlaces(16) {
		refused(t, api.Pte{Frame: frame})
	}
	for _, slot := range wrongPlaces(8) {
		refused(t, api.Pte{Slot: slot})
	}
}

func TestPutOfWrongEntries(t *testing.T) {
	for _, p := range entries() {
		for _, frame := range wrongPlaces(16) {
			refused(t, api.Pte{Frame: frame, Slot: p.Slot, Rights: p.Rights})
		}
		for _, slot := range wrongPlaces(8) {
			refused(t, api.Pte{Frame: p.Frame, Slot: slot, Rights: p.Rights})
		}
		for _, rights := range wrongRights() {
			if rights != 0 {
				refused(t, api.Pte{Frame: p.Frame, Slot: p.Slot, Rights: rights})
			}
		}
	}
	refused(t, api.Pte{Frame: 16, Slot: 8, Rights: 4})
	refused(t, api.Pte{Frame: -1, Slot: -1, Rights: -1})
	refused(t, api.Pte{Frame: math.MaxInt, Slot: math.MaxInt, Rights: math.MaxInt})
	refused(t, api.Pte{Frame: math.MinInt, Slot: math.MinInt, Rights: math.MinInt})
	// Their sums, carries and all, are words of entries.
	refused(t, api.Pte{Frame: 1, Slot: -16, Rights: 1})
	refused(t, api.Pte{Slot: 16, Rights: 1})
	refused(t, api.Pte{Slot: -1, Rights: 17})
	refused(t, api.Pte{Frame: -128, Rights: 3})
	refused(t, api.Pte{Rights: 1 << 8})
}

func TestGetBack(t *testing.T) {
	for _, p := range entries() {
		w, _ := Put(p)
		if got, ok := Get(w); got != p || !ok {
			t.Errorf("Get %d: %v, %v, not %v", w, got, ok, p)
		}
		if got, ok := Get(wordOf(p)); got != p || !ok {
			t.Errorf("Get %d: %v, %v, not %v", wordOf(p), got, ok, p)
		}
	}
	if got, ok := Get(0); got != (api.Pte{}) || !ok {
		t.Errorf("Get 0: %v, %v", got, ok)
	}
}

// words are those of all entries and of none, told by numbers alone.
func words() map[uint64]api.Pte {
	ws := map[uint64]api.Pte{0: {}}
	for _, p := range entries() {
		ws[wordOf(p)] = p
	}
	return ws
}

func expectGet(t *testing.T, ws map[uint64]api.Pte, w uint64) {
	t.Helper()
	want, is := ws[w]
	if got, ok := Get(w); got != want || ok != is {
		t.Errorf("Get %d: %v, %v, not %v, %v", w, got, ok, want, is)
	}
}

func TestGetOfAllSmallWords(t *testing.T) {
	ws := words()
	for w := range uint64(1 << 17) {
		expectGet(t, ws, w)
	}
}

func TestGetOfWordsOneBitBeside(t *testing.T) {
	ws := words()
	for w := range ws {
		for bit := range 64 {
			expectGet(t, ws, w^1<<bit)
		}
		expectGet(t, ws, -w)
		expectGet(t, ws, ^w)
	}
}

func TestGetOfGreatWords(t *testing.T) {
	ws := words()
	for _, w := range []uint64{1 << 16, 1 << 31, 1 << 32, 1<<32 + 32769, 1 << 47, 1 << 62, 1<<63 - 1, 1 << 63, 1<<63 + 32769, math.MaxUint64 - 32767, math.MaxUint64 - 1, math.MaxUint64} {
		expectGet(t, ws, w)
	}
}
