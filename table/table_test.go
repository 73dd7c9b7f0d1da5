package table

import (
	"math"
	"slices"
	"testing"

	"messuage/api"
)

// pages are a table's entries as the tests have them: zero is none.
type pages [8]api.Pte

// below are numbers that no page, slot, frame and rights are.
func below() []int {
	return []int{math.MinInt, math.MinInt + 1, math.MinInt + 3, -1 << 32, -1<<32 + 1, -256, -255, -9, -8, -7, -2, -1}
}

// beyond are the first number that is not below most, and some from there on,
// those with them that become a right one when they lose their upper bits.
func beyond(most int) []int {
	return []int{most, most + 1, 2 * most, 2*most + 1, 64, 255, 256, 257, 1 << 16, 1 << 31, 1 << 32, 1<<32 + 1, 1<<32 + 3, 1 << 60, 1<<60 + 3, 1 << 62, math.MaxInt - 7, math.MaxInt - 1, math.MaxInt}
}

// wrongPages, wrongSlots and wrongFrames are numbers that none of these has.
func wrongPages() []int  { return append(below(), beyond(8)...) }
func wrongSlots() []int  { return append(below(), beyond(8)...) }
func wrongFrames() []int { return append(below(), beyond(16)...) }

// wrongRights are numbers that are no rights, 0 among them.
func wrongRights() []int { return append(append(below(), 0, 5, 6, 7), beyond(4)...) }

// entries are all entries that are there.
func entries() []api.Pte {
	var ps []api.Pte
	for frame := range 16 {
		for slot := range 8 {
			for rights := 1; rights <= 3; rights++ {
				ps = append(ps, api.Pte{Frame: frame, Slot: slot, Rights: rights})
			}
		}
	}
	return ps
}

// someEntries are those with the least and the greatest parts.
func someEntries() []api.Pte {
	return []api.Pte{{Rights: 1}, {Rights: 3}, {Slot: 7, Rights: 2}, {Frame: 15, Rights: 1}, {Frame: 15, Slot: 7, Rights: 3}, {Frame: 6, Slot: 2, Rights: 2}}
}

// wrongEntries are those that may not be inserted: none, and such as have no
// word, with one part that is wrong, or two, or all three.
func wrongEntries() []api.Pte {
	var ps []api.Pte
	frames := append(wrongFrames(), 0, 1, 15)
	slots := append(wrongSlots(), 0, 1, 7)
	rights := append(wrongRights(), 1, 2, 3)
	for i, f := range frames {
		for j, s := range slots {
			for k, r := range rights {
				if i >= len(frames)-3 && j >= len(slots)-3 && k >= len(rights)-3 {
					continue
				}
				ps = append(ps, api.Pte{Frame: f, Slot: s, Rights: r})
			}
		}
	}
	return ps
}

// full are eight entries, by the slots 0, 3 and 7, with each rights.
func full() pages {
	return pages{
		{Frame: 15, Slot: 7, Rights: 1},
		{Frame: 0, Slot: 0, Rights: 2},
		{Frame: 4, Slot: 3, Rights: 3},
		{Frame: 15, Slot: 7, Rights: 2},
		{Frame: 1, Slot: 0, Rights: 1},
		{Frame: 9, Slot: 3, Rights: 3},
		{Frame: 8, Slot: 7, Rights: 3},
		{Frame: 0, Slot: 0, Rights: 1},
	}
}

// some is full with pages that have none: 1, 4 and 7, all those by slot 0.
func some() pages { return full().but(1, api.Pte{}).but(4, api.Pte{}).but(7, api.Pte{}) }

// each are a table without entries, one with some, and one that is full.
func each() []pages { return []pages{{}, some(), full()} }

// but is ps with another entry of that page.
func (ps pages) but(page int, p api.Pte) pages {
	ps[page] = p
	return ps
}

// made is a table with these entries.
func made(t *testing.T, ps pages) *Table {
	t.Helper()
	x := New()
	if x == nil {
		t.Fatal("New: nil")
	}
	for page, p := range ps {
		if p == (api.Pte{}) {
			continue
		}
		if err := x.Insert(page, p); err != api.OK {
			t.Fatalf("Insert %d, %v: %d", page, p, err)
		}
	}
	return x
}

// words tells the words of ps by numbers alone, as the chapter of rights does.
func (ps pages) words() []uint64 {
	ws := make([]uint64, 8)
	for page, p := range ps {
		if p != (api.Pte{}) {
			ws[page] = uint64(p.Rights + 16*p.Slot + 256*p.Frame + 32768)
		}
	}
	return ws
}

func (ps pages) by(slot int) []int {
	var by []int
	for page, p := range ps {
		if p != (api.Pte{}) && p.Slot == slot {
			by = append(by, page)
		}
	}
	return by
}

// expect holds all that x tells against ps.
func expect(t *testing.T, what string, x *Table, ps pages) {
	t.Helper()
	for page, p := range ps {
		if got, ok := x.At(page); got != p || ok != (p != api.Pte{}) {
			t.Errorf("%s: At %d: %v, %v, not %v", what, page, got, ok, p)
		}
	}
	if got := x.Words(); !slices.Equal(got, ps.words()) {
		t.Errorf("%s: Words: %v, not %v", what, got, ps.words())
	}
	for slot := range 8 {
		if got := x.By(slot); !slices.Equal(got, ps.by(slot)) {
			t.Errorf("%s: By %d: %v, not %v", what, slot, got, ps.by(slot))
		}
	}
}

func expectErr(t *testing.T, what string, got, want api.Errno) {
	t.Helper()
	if got != want {
		t.Errorf("%s: %d, not %d", what, got, want)
	}
}

// removes is what a Remove that does nothing tells: an error and no entry.
func removes(t *testing.T, x *Table, page int, want api.Errno) {
	t.Helper()
	if p, err := x.Remove(page); p != (api.Pte{}) || err != want {
		t.Errorf("Remove %d: %v, %d, not %d", page, p, err, want)
	}
}

func TestLimits(t *testing.T) {
	if api.Pages != 8 || api.Slots != 8 || api.MaxFrames != 16 || api.RRead|api.RWrite != 3 {
		t.Errorf("%d pages, %d slots, %d frames, rights %d", api.Pages, api.Slots, api.MaxFrames, api.RRead|api.RWrite)
	}
	for err, want := range map[api.Errno]int{api.OK: 0, api.ErrArg: 2, api.ErrNone: 3, api.ErrBusy: 4, api.ErrOff: 10} {
		if int(err) != want {
			t.Errorf("error %d, not %d", err, want)
		}
	}
}

func TestNew(t *testing.T) {
	expect(t, "New", made(t, pages{}), pages{})
}

func TestNewIsNewMemory(t *testing.T) {
	a, b := New(), New()
	a.Insert(2, api.Pte{Frame: 3, Slot: 1, Rights: 1})
	expect(t, "the other one", b, pages{})
	expect(t, "one made behind it", New(), pages{})
}

func TestInsertOfEachEntry(t *testing.T) {
	for page := range 8 {
		for _, p := range entries() {
			x := New()
			expectErr(t, "Insert", x.Insert(page, p), api.OK)
			expect(t, "Insert", x, pages{}.but(page, p))
		}
	}
}

func TestInsertBesideOthers(t *testing.T) {
	for page, p := range full() {
		x := made(t, full().but(page, api.Pte{}))
		expect(t, "ahead", x, full().but(page, api.Pte{}))
		expectErr(t, "Insert", x.Insert(page, p), api.OK)
		expect(t, "behind", x, full())
	}
}

func TestInsertOfPagesThatAreNotThere(t *testing.T) {
	for _, ps := range each() {
		x := made(t, ps)
		for _, page := range wrongPages() {
			for _, p := range append(someEntries(), api.Pte{}, api.Pte{Frame: 16, Rights: 1}, api.Pte{Slot: 8, Rights: 1}, api.Pte{Rights: 4}, api.Pte{Frame: -1, Slot: -1, Rights: -1}) {
				expectErr(t, "Insert", x.Insert(page, p), api.ErrArg)
			}
		}
		expect(t, "Insert", x, ps)
	}
}

func TestInsertOfNone(t *testing.T) {
	for _, ps := range each() {
		x := made(t, ps)
		for page := range 8 {
			expectErr(t, "Insert of none", x.Insert(page, api.Pte{}), api.ErrArg)
		}
		expect(t, "Insert of none", x, ps)
	}
}

// All but the entries that there are: neither frames and slots without rights,
// nor anything beyond.
func TestInsertOfWrongEntries(t *testing.T) {
	for _, ps := range each() {
		x := made(t, ps)
		for _, page := range []int{0, 1, 4, 7} {
			for _, p := range wrongEntries() {
				if err := x.Insert(page, p); err != api.ErrArg {
					t.Fatalf("Insert %d, %v: %d", page, p, err)
				}
			}
		}
		expect(t, "Insert of wrong ones", x, ps)
	}
}

// Their parts' sum, carries and all, is the word of an entry.
func TestInsertOfEntriesWhoseSumIsAWord(t *testing.T) {
	for _, p := range []api.Pte{{Frame: 1, Slot: -16, Rights: 1}, {Slot: 16, Rights: 1}, {Slot: -1, Rights: 17}, {Frame: -128, Rights: 3}, {Rights: 1 << 8}, {Rights: 1 << 15}} {
		x := New()
		expectErr(t, "Insert", x.Insert(3, p), api.ErrArg)
		expect(t, "Insert", x, pages{})
	}
}

func TestInsertWhereThereIsOne(t *testing.T) {
	for page := range 8 {
		for _, there := range someEntries() {
			x := made(t, pages{}.but(page, there))
			for _, p := range entries() {
				expectErr(t, "Insert", x.Insert(page, p), api.ErrBusy)
			}
			expect(t, "Insert where there is one", x, pages{}.but(page, there))
		}
	}
}

func TestRemove(t *testing.T) {
	for page, p := range full() {
		x := made(t, full())
		if got, err := x.Remove(page); got != p || err != api.OK {
			t.Errorf("Remove %d: %v, %d, not %v", page, got, err, p)
		}
		expect(t, "Remove", x, full().but(page, api.Pte{}))
		removes(t, x, page, api.ErrNone)
		expect(t, "Remove again", x, full().but(page, api.Pte{}))
	}
}

func TestRemoveOfEachEntry(t *testing.T) {
	x := New()
	for page := range 8 {
		for _, p := range entries() {
			expectErr(t, "Insert", x.Insert(page, p), api.OK)
			if got, err := x.Remove(page); got != p || err != api.OK {
				t.Errorf("Remove %d: %v, %d, not %v", page, got, err, p)
			}
		}
	}
	expect(t, "behind all", x, pages{})
}

func TestRemoveOfAll(t *testing.T) {
	x := made(t, full())
	left := full()
	for _, page := range []int{3, 7, 0, 1, 6, 2, 5, 4} {
		if got, err := x.Remove(page); got != left[page] || err != api.OK {
			t.Errorf("Remove %d: %v, %d", page, got, err)
		}
		left = left.but(page, api.Pte{})
		expect(t, "Remove", x, left)
	}
}

func TestRemoveOfPagesThatHaveNone(t *testing.T) {
	empty, part := New(), made(t, some())
	for page := range 8 {
		removes(t, empty, page, api.ErrNone)
	}
	for _, page := range []int{1, 4, 7} {
		removes(t, part, page, api.ErrNone)
	}
	expect(t, "Remove", empty, pages{})
	expect(t, "Remove", part, some())
}

func TestRemoveOfPagesThatAreNotThere(t *testing.T) {
	for _, ps := range each() {
		x := made(t, ps)
		for _, page := range wrongPages() {
			removes(t, x, page, api.ErrArg)
		}
		expect(t, "Remove", x, ps)
	}
}

func TestInsertBehindRemove(t *testing.T) {
	for page := range 8 {
		x := made(t, full())
		for _, p := range someEntries() {
			x.Remove(page)
			expectErr(t, "Insert", x.Insert(page, p), api.OK)
			expect(t, "Insert behind Remove", x, full().but(page, p))
		}
	}
}

// To more rights, to fewer, to others, and to the same ones: how many the
// capability has is not the table's to ask.
func TestProtect(t *testing.T) {
	for page := range 8 {
		for _, p := range someEntries() {
			x := made(t, full().but(page, p))
			for _, rights := range []int{1, 1, 2, 2, 3, 3, 1, 3, 2, 1} {
				expectErr(t, "Protect", x.Protect(page, rights), api.OK)
				p.Rights = rights
				expect(t, "Protect", x, full().but(page, p))
			}
		}
	}
}

func TestProtectOfPagesThatHaveNone(t *testing.T) {
	empty, part := New(), made(t, some())
	for rights := 1; rights <= 3; rights++ {
		for page := range 8 {
			expectErr(t, "Protect", empty.Protect(page, rights), api.ErrNone)
		}
		for _, page := range []int{1, 4, 7} {
			expectErr(t, "Protect", part.Protect(page, rights), api.ErrNone)
		}
	}
	expect(t, "Protect", empty, pages{})
	expect(t, "Protect", part, some())
}

func TestProtectToRightsThatMayNotBe(t *testing.T) {
	for _, ps := range each() {
		x := made(t, ps)
		for page := range 8 {
			for _, rights := range wrongRights() {
				expectErr(t, "Protect", x.Protect(page, rights), api.ErrArg)
			}
		}
		expect(t, "Protect", x, ps)
	}
}

func TestProtectOfPagesThatAreNotThere(t *testing.T) {
	for _, ps := range each() {
		x := made(t, ps)
		for _, page := range wrongPages() {
			for _, rights := range append(wrongRights(), 1, 2, 3) {
				expectErr(t, "Protect", x.Protect(page, rights), api.ErrArg)
			}
		}
		expect(t, "Protect", x, ps)
	}
}

// What goes is the entry as Protect made it.
func TestRemoveBehindProtect(t *testing.T) {
	x := made(t, full())
	x.Protect(0, 3)
	if p, err := x.Remove(0); p != (api.Pte{Frame: 15, Slot: 7, Rights: 3}) || err != api.OK {
		t.Errorf("Remove: %v, %d", p, err)
	}
	expectErr(t, "Protect", x.Protect(0, 1), api.ErrNone)
	expect(t, "Remove behind Protect", x, full().but(0, api.Pte{}))
}

func TestAtOfPagesThatHaveNone(t *testing.T) {
	for _, ps := range each() {
		x := made(t, ps)
		for _, page := range wrongPages() {
			if p, ok := x.At(page); p != (api.Pte{}) || ok {
				t.Errorf("At %d: %v, %v", page, p, ok)
			}
		}
	}
	x := made(t, some())
	for _, page := range []int{1, 4, 7} {
		if p, ok := x.At(page); p != (api.Pte{}) || ok {
			t.Errorf("At %d: %v, %v", page, p, ok)
		}
	}
}

func TestAskingChangesNothing(t *testing.T) {
	x := made(t, some())
	for range 3 {
		expect(t, "asked", x, some())
	}
}

func expectBy(t *testing.T, x *Table, slot int, want ...int) {
	t.Helper()
	if got := x.By(slot); !slices.Equal(got, want) {
		t.Errorf("By %d: %v, not %v", slot, got, want)
	}
}

func TestBy(t *testing.T) {
	x := made(t, full())
	expectBy(t, x, 0, 1, 4, 7)
	expectBy(t, x, 3, 2, 5)
	expectBy(t, x, 7, 0, 3, 6)
	for _, slot := range []int{1, 2, 4, 5, 6} {
		expectBy(t, x, slot)
	}
}

// The slot 0 is none's, though none's entry is all 0.
func TestByOfSlotsThatNoneGoesBy(t *testing.T) {
	empty, part := New(), made(t, some())
	for slot := range 8 {
		expectBy(t, empty, slot)
	}
	expectBy(t, part, 0)
	for _, ps := range each() {
		x := made(t, ps)
		for _, slot := range wrongSlots() {
			expectBy(t, x, slot)
		}
	}
}

// Rising, whatever the order in which they came.
func TestByRises(t *testing.T) {
	x := New()
	for _, page := range []int{6, 0, 7, 3, 1, 5, 2, 4} {
		expectErr(t, "Insert", x.Insert(page, api.Pte{Frame: 15 - page, Slot: 5, Rights: 1}), api.OK)
	}
	expectBy(t, x, 5, 0, 1, 2, 3, 4, 5, 6, 7)
	expectBy(t, x, 0)
	x.Remove(3)
	x.Remove(0)
	expectBy(t, x, 5, 1, 2, 4, 5, 6, 7)
	x.Insert(0, api.Pte{Slot: 5, Rights: 2})
	x.Insert(3, api.Pte{Slot: 4, Rights: 2})
	expectBy(t, x, 5, 0, 1, 2, 4, 5, 6, 7)
	expectBy(t, x, 4, 3)
	x.Protect(7, 2)
	expectBy(t, x, 5, 0, 1, 2, 4, 5, 6, 7)
}

// A frame is not a slot: pages of one frame may be by several.
func TestByOfOneFrame(t *testing.T) {
	x := made(t, pages{{Frame: 2, Slot: 1, Rights: 3}, {Frame: 2, Slot: 2, Rights: 1}, {Frame: 1, Slot: 1, Rights: 3}})
	expectBy(t, x, 1, 0, 2)
	expectBy(t, x, 2, 1)
}

func TestWords(t *testing.T) {
	for _, r := range []struct {
		ps   pages
		want []uint64
	}{
		{pages{}, []uint64{0, 0, 0, 0, 0, 0, 0, 0}},
		{full(), []uint64{36721, 32770, 33843, 36722, 33025, 35123, 34931, 32769}},
		{some(), []uint64{36721, 0, 33843, 36722, 0, 35123, 34931, 0}},
	} {
		if got := made(t, r.ps).Words(); !slices.Equal(got, r.want) {
			t.Errorf("Words: %v, not %v", got, r.want)
		}
	}
}

// spoil writes into all of a list, and into its spare room, as it is and as
// append finds it.
func spoil[T any](list []T, v T) {
	whole := list[:cap(list)]
	for i := range whole {
		whole[i] = v
	}
	_ = append(list, v, v, v)
}

func TestListsThatAreWrittenInto(t *testing.T) {
	for _, ps := range each() {
		x := made(t, ps)
		words, by := x.Words(), x.By(7)
		spoil(x.Words(), 99)
		for slot := range 8 {
			spoil(x.By(slot), 99)
		}
		expect(t, "lists that were written into", x, ps)
		if !slices.Equal(words, ps.words()) || !slices.Equal(by, ps.by(7)) {
			t.Errorf("other lists: %v, %v", words, by)
		}
	}
}

func TestListsStayAsTheyWere(t *testing.T) {
	x := made(t, full())
	words, by := x.Words(), x.By(7)
	x.Protect(0, 3)
	x.Remove(3)
	x.Remove(1)
	x.Insert(1, api.Pte{Slot: 7, Rights: 1})
	if !slices.Equal(words, full().words()) || !slices.Equal(by, full().by(7)) {
		t.Errorf("lists of ahead: %v, %v", words, by)
	}
}

func TestNil(t *testing.T) {
	var none *Table
	for _, n := range append(wrongPages(), 0, 1, 3, 7) {
		for _, p := range append(someEntries(), api.Pte{}, api.Pte{Rights: 4}) {
			expectErr(t, "Insert", none.Insert(n, p), api.ErrOff)
		}
		for _, rights := range append(wrongRights(), 1, 2, 3) {
			expectErr(t, "Protect", none.Protect(n, rights), api.ErrOff)
		}
		removes(t, none, n, api.ErrOff)
		if p, ok := none.At(n); p != (api.Pte{}) || ok {
			t.Errorf("At %d: %v, %v", n, p, ok)
		}
		if by := none.By(n); by != nil {
			t.Errorf("By %d: %v", n, by)
		}
	}
	if words := none.Words(); words != nil {
		t.Errorf("Words: %v", words)
	}
}

// A Table that New has not made is one without entries.
func TestEmpty(t *testing.T) {
	x := &Table{}
	expect(t, "empty", x, pages{})
	expectErr(t, "Insert", x.Insert(7, api.Pte{Rights: 1}), api.OK)
	expect(t, "Insert", x, pages{}.but(7, api.Pte{Rights: 1}))
}

// Long rows of calls are held against what they would do to a list of entries.
func TestRowsOfCalls(t *testing.T) {
	n := uint64(1)
	draw := func(most int) int {
		n = n*6364136223846793005 + 1442695040888963407
		return int(n>>33) % most
	}
	all := entries()
	x, want := New(), pages{}
	for range 20000 {
		page, rights, p := draw(8), 1+draw(3), all[draw(len(all))]
		was := want[page]
		there := was != api.Pte{}
		var err, wantErr api.Errno
		switch draw(3) {
		case 0:
			err = x.Insert(page, p)
			if there {
				wantErr = api.ErrBusy
			} else {
				want[page] = p
			}
		case 1:
			var got api.Pte
			got, err = x.Remove(page)
			want[page] = api.Pte{}
			if !there {
				wantErr = api.ErrNone
			}
			if got != was {
				t.Fatalf("Remove %d: %v, not %v", page, got, was)
			}
		case 2:
			err = x.Protect(page, rights)
			if there {
				want[page].Rights = rights
			} else {
				wantErr = api.ErrNone
			}
		}
		if err != wantErr {
			t.Fatalf("a call of %d: %d, not %d", page, err, wantErr)
		}
		expect(t, "a row of calls", x, want)
	}
}
