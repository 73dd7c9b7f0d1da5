package tlb

import (
	"math"
	"slices"
	"testing"

	"messuage/api"
)

// lines are a buffer's places as Lines tells them.
type lines [8]api.Line

var gone = api.Line{Env: -1}

// none are the places of an empty buffer.
func none() lines { return lines{gone, gone, gone, gone, gone, gone, gone, gone} }

// full are eight entries: in each set two pages, of one environment or of two,
// or one page of two environments. Every environment, page and rights is among
// them, and the least and the greatest frame.
func full() lines {
	return lines{
		{Env: 0, Page: 0, Frame: 15, Rights: 1},
		{Env: 0, Page: 4, Frame: 0, Rights: 2},
		{Env: 3, Page: 1, Frame: 2, Rights: 3},
		{Env: 2, Page: 1, Frame: 2, Rights: 1},
		{Env: 1, Page: 6, Frame: 15, Rights: 2},
		{Env: 3, Page: 2, Frame: 9, Rights: 3},
		{Env: 2, Page: 7, Frame: 2, Rights: 1},
		{Env: 3, Page: 3, Frame: 0, Rights: 3},
	}
}

// some are full with places that are empty: of one set the first, of another
// the second, of a third one both.
func some() lines { return full().but(2, gone).but(5, gone).but(6, gone).but(7, gone) }

func each() []lines { return []lines{none(), some(), full()} }

// but is ls with another entry in that place.
func (ls lines) but(place int, l api.Line) lines {
	ls[place] = l
	return ls
}

// under are numbers that no environment, page, frame, set, place and rights are.
func under() []int {
	return []int{math.MinInt, math.MinInt + 1, math.MinInt + 4, -1 << 32, -1<<32 + 1, -256, -255, -16, -9, -8, -7, -4, -3, -2, -1}
}

// beyond are the first number that is not below most, and some from there on,
// those with them that become a right one when they lose their upper bits.
func beyond(most int) []int {
	return []int{most, most + 1, 2 * most, 2*most + 1, 64, 255, 256, 257, 1 << 16, 1 << 31, 1 << 32, 1<<32 + 1, 1<<32 + 3, 1 << 60, 1<<60 + 3, 1 << 62, math.MaxInt - 7, math.MaxInt - 1, math.MaxInt}
}

func wrong(most int) []int { return append(under(), beyond(most)...) }

// wrongRights are numbers that are no rights, 0 among them.
func wrongRights() []int { return append(wrong(4), 0, 5, 6, 7) }

func line(env, page, frame, rights int) api.Line {
	return api.Line{Env: env, Page: page, Frame: frame, Rights: rights}
}

// all are all entries that may be.
func all() []api.Line {
	var ls []api.Line
	for env := range 4 {
		for page := range 8 {
			for frame := range 16 {
				for rights := 1; rights <= 3; rights++ {
					ls = append(ls, line(env, page, frame, rights))
				}
			}
		}
	}
	return ls
}

// wrongLines are entries with one part that is wrong, or with several.
func wrongLines() []api.Line {
	ls := []api.Line{{}, gone, line(-1, -1, -1, -1), line(4, 8, 16, 4), line(math.MinInt, math.MaxInt, math.MinInt, math.MaxInt)}
	for _, l := range full() {
		for _, n := range wrong(4) {
			ls = append(ls, line(n, l.Page, l.Frame, l.Rights))
		}
		for _, n := range wrong(8) {
			ls = append(ls, line(l.Env, n, l.Frame, l.Rights))
		}
		for _, n := range wrong(16) {
			ls = append(ls, line(l.Env, l.Page, n, l.Rights))
		}
		for _, n := range wrongRights() {
			ls = append(ls, line(l.Env, l.Page, l.Frame, n))
		}
	}
	return ls
}

// made is a buffer of these lines, which are full's but for those that are
// empty. Full's were filled in their places' order.
func made(t *testing.T, ls lines) *Tlb {
	t.Helper()
	b := New()
	if b == nil {
		t.Fatal("New: nil")
	}
	for _, l := range full() {
		fill(t, b, l)
	}
	for place, l := range ls {
		if l == gone && !b.Evict(place/2, place%2) {
			t.Fatalf("Evict %d, %d", place/2, place%2)
		}
	}
	expect(t, "made", b, ls)
	return b
}

func fill(t *testing.T, b *Tlb, l api.Line) {
	t.Helper()
	if !b.Fill(l) {
		t.Fatalf("Fill %v: false", l)
	}
}

// find is the entry of that environment and page.
func (ls lines) find(env, page int) (api.Line, bool) {
	for _, l := range ls {
		if l.Env == env && l.Page == page && l != gone {
			return l, true
		}
	}
	return api.Line{}, false
}

// expect holds all that b tells against ls.
func expect(t *testing.T, what string, b *Tlb, ls lines) {
	t.Helper()
	if got := b.Lines(); !slices.Equal(got, ls[:]) {
		t.Errorf("%s: Lines: %v, not %v", what, got, ls)
	}
	for env := -1; env <= 4; env++ {
		for page := -1; page <= 8; page++ {
			l, ok := b.Find(env, page)
			if want, there := ls.find(env, page); l != want || ok != there {
				t.Errorf("%s: Find %d, %d: %v, %v, not %v", what, env, page, l, ok, want)
			}
		}
	}
}

func expectBool(t *testing.T, what string, got, want bool) {
	t.Helper()
	if got != want {
		t.Errorf("%s: %v, not %v", what, got, want)
	}
}

func TestLimits(t *testing.T) {
	for i, n := range []int{api.MaxEnvs - 4, api.Pages - 8, api.MaxFrames - 16, api.Sets - 4, api.Ways - 2, api.RRead - 1, api.RWrite - 2} {
		if n != 0 {
			t.Errorf("limit %d: beside by %d", i, n)
		}
	}
}

func TestNew(t *testing.T) {
	expect(t, "New", New(), none())
}

func TestNewIsNewMemory(t *testing.T) {
	a, b := New(), New()
	fill(t, a, line(1, 2, 3, 1))
	expect(t, "the other one", b, none())
	expect(t, "one made behind it", New(), none())
}

// A buffer fills the first place of the page's set, whatever the entry.
func TestFillOfEachEntry(t *testing.T) {
	for _, l := range all() {
		b := New()
		fill(t, b, l)
		expect(t, "Fill", b, none().but(l.Page%4*2, l))
	}
}

func TestFillOfAllPlaces(t *testing.T) {
	b, want := New(), none()
	for _, place := range []int{4, 0, 2, 3, 6, 5, 1, 7} {
		want[place] = full()[place]
		fill(t, b, want[place])
		expect(t, "Fill", b, want)
	}
}

func TestFillOfWrongEntries(t *testing.T) {
	for _, ls := range each() {
		b := made(t, ls)
		for _, l := range wrongLines() {
			if b.Fill(l) {
				t.Fatalf("Fill %v: true", l)
			}
		}
		expect(t, "Fill of wrong ones", b, ls)
	}
}

// A Fill that may not be counts for nothing: that of an entry that is there has
// not made it the later one.
func TestWrongFillDoesNotCount(t *testing.T) {
	b := made(t, full())
	expectBool(t, "Fill", b.Fill(line(0, 0, 16, 1)), false)
	expectBool(t, "Fill", b.Fill(line(0, 0, 0, 0)), false)
	fill(t, b, line(1, 4, 5, 1))
	expect(t, "Fill", b, full().but(0, line(1, 4, 5, 1)))
}

// An entry of that Env and Page is replaced where it is, by all that may be.
func TestFillOfWhatIsThere(t *testing.T) {
	for place, l := range full() {
		b := made(t, full())
		for frame := range 16 {
			for rights := 1; rights <= 3; rights++ {
				l.Frame, l.Rights = frame, rights
				fill(t, b, l)
				expect(t, "Fill", b, full().but(place, l))
			}
		}
	}
}

// It is looked for ahead of an empty place.
func TestFillOfWhatIsThereBesideAnEmptyPlace(t *testing.T) {
	for place, l := range full() {
		other := place ^ 1
		ls := full().but(other, gone)
		b := made(t, ls)
		l.Frame, l.Rights = 8, 1
		fill(t, b, l)
		expect(t, "Fill", b, ls.but(place, l))
		fill(t, b, full()[other])
		expect(t, "Fill of the empty one", b, full().but(place, l))
	}
}

// What is replaced counts as filled now, so the other one goes next; the very
// same entry too.
func TestFillOfWhatIsThereCounts(t *testing.T) {
	for _, l := range []api.Line{line(0, 0, 15, 1), line(0, 0, 3, 2)} {
		b := made(t, full())
		fill(t, b, l)
		fill(t, b, line(1, 0, 7, 3))
		expect(t, "Fill", b, full().but(0, l).but(1, line(1, 0, 7, 3)))
		fill(t, b, line(2, 4, 7, 3))
		expect(t, "Fill again", b, full().but(0, line(2, 4, 7, 3)).but(1, line(1, 0, 7, 3)))
	}
	b := made(t, full())
	fill(t, b, line(0, 4, 3, 3))
	fill(t, b, line(1, 0, 7, 3))
	expect(t, "Fill of the later one", b, full().but(0, line(1, 0, 7, 3)).but(1, line(0, 4, 3, 3)))
}

// The first place that is empty: ahead of one that is not, behind one, and of
// two.
func TestFillOfEmptyPlaces(t *testing.T) {
	l, m := line(1, 5, 5, 1), line(0, 5, 6, 2)
	b := made(t, full().but(2, gone))
	fill(t, b, l)
	expect(t, "the first one is empty", b, full().but(2, l))
	b = made(t, full().but(3, gone))
	fill(t, b, l)
	expect(t, "the second one is empty", b, full().but(3, l))
	b = made(t, full().but(2, gone).but(3, gone))
	fill(t, b, l)
	expect(t, "both are empty", b, full().but(2, l).but(3, gone))
	fill(t, b, m)
	expect(t, "the second one is left", b, full().but(2, l).but(3, m))
}

// The order in which places became empty, and when they were filled ahead of
// that, is nothing to a Fill.
func TestFillOfTwoPlacesThatBecameEmpty(t *testing.T) {
	for _, first := range []int{0, 1} {
		for _, later := range []int{0, 1} {
			b := made(t, full())
			fill(t, b, full()[later])
			b.Evict(0, first)
			b.Evict(0, 1-first)
			fill(t, b, line(3, 4, 5, 1))
			expect(t, "Fill", b, full().but(0, line(3, 4, 5, 1)).but(1, gone))
		}
	}
}

// A place that was emptied and filled again is the later one.
func TestFillBehindEvictCounts(t *testing.T) {
	b := made(t, full())
	b.Evict(0, 0)
	fill(t, b, line(1, 0, 1, 1))
	fill(t, b, line(2, 0, 2, 1))
	expect(t, "the first one came later", b, full().but(0, line(1, 0, 1, 1)).but(1, line(2, 0, 2, 1)))
	b = made(t, full())
	fill(t, b, full()[0])
	b.Evict(0, 1)
	fill(t, b, line(1, 0, 1, 1))
	fill(t, b, line(2, 0, 2, 1))
	expect(t, "the second one came later", b, full().but(0, line(2, 0, 2, 1)).but(1, line(1, 0, 1, 1)))
}

// The place that was filled longest ago, again and again: the two take turns,
// in each set.
func TestFillOfThePlaceFilledLongestAgo(t *testing.T) {
	for set := range 4 {
		b, want := made(t, full()), full()
		for n := range 40 {
			l := line((n/2+1)%4, set+n%2*4, n%16, 1+n%3)
			expectLost(t, b, l.Env, l.Page)
			fill(t, b, l)
			want[set*2+n%2] = l
			expect(t, "Fill", b, want)
		}
	}
}

// Neither Find nor a Fill of another set is a Fill of this one.
func TestOnlyFillsOfASetCount(t *testing.T) {
	b := made(t, full())
	for range 5 {
		b.Find(0, 0)
		b.Lines()
		b.Flush(0, 1)
		b.FlushFrame(14)
		b.Evict(0, 2)
		fill(t, b, full()[6])
	}
	fill(t, b, line(3, 0, 4, 1))
	fill(t, b, line(3, 4, 4, 1))
	expect(t, "Fill", b, full().but(0, line(3, 0, 4, 1)).but(1, line(3, 4, 4, 1)))
}

// Page 0 and 4 are of one set, 0 to 3 each of one of its own.
func TestSets(t *testing.T) {
	b := New()
	for page := range 8 {
		fill(t, b, line(2, page, page, 1))
	}
	want := lines{}
	for page := range 8 {
		want[page%4*2+page/4] = line(2, page, page, 1)
	}
	expect(t, "eight pages", b, want)
}

func TestSamePageOfUnlikeEnvs(t *testing.T) {
	b := New()
	fill(t, b, line(0, 3, 1, 1))
	fill(t, b, line(1, 3, 2, 2))
	expect(t, "two", b, none().but(6, line(0, 3, 1, 1)).but(7, line(1, 3, 2, 2)))
	fill(t, b, line(2, 3, 3, 3))
	expect(t, "three", b, none().but(6, line(2, 3, 3, 3)).but(7, line(1, 3, 2, 2)))
	fill(t, b, line(3, 3, 4, 1))
	expect(t, "four", b, none().but(6, line(2, 3, 3, 3)).but(7, line(3, 3, 4, 1)))
}

func expectFound(t *testing.T, b *Tlb, want api.Line) {
	t.Helper()
	if l, ok := b.Find(want.Env, want.Page); l != want || !ok {
		t.Errorf("Find %d, %d: %v, %v", want.Env, want.Page, l, ok)
	}
}

func expectLost(t *testing.T, b *Tlb, env, page int) {
	t.Helper()
	if l, ok := b.Find(env, page); l != (api.Line{}) || ok {
		t.Errorf("Find %d, %d: %v, %v", env, page, l, ok)
	}
}

func TestFind(t *testing.T) {
	b := made(t, full())
	for _, l := range full() {
		expectFound(t, b, l)
	}
	expectLost(t, b, 3, 0)
	expectLost(t, b, 0, 7)
	fill(t, b, line(3, 4, 1, 1))
	expectFound(t, b, line(3, 4, 1, 1))
	expectFound(t, b, line(0, 4, 0, 2))
	expectLost(t, b, 0, 0)
	fill(t, b, line(0, 4, 6, 3))
	expectFound(t, b, line(0, 4, 6, 3))
}

// Among them are numbers that become those of an entry when they are taken
// modulo 4 or lose their upper bits.
func TestFindOfWhatCanNotBe(t *testing.T) {
	for _, ls := range each() {
		b := made(t, ls)
		for _, env := range wrong(4) {
			for page := range 8 {
				expectLost(t, b, env, page)
			}
			for _, page := range wrong(8) {
				expectLost(t, b, env, page)
			}
		}
		for _, page := range wrong(8) {
			for env := range 4 {
				expectLost(t, b, env, page)
			}
		}
		expect(t, "Find", b, ls)
	}
}

func TestEvict(t *testing.T) {
	for set := range 4 {
		for way := range 2 {
			b := made(t, full())
			expectBool(t, "Evict", b.Evict(set, way), true)
			expect(t, "Evict", b, full().but(set*2+way, gone))
			expectBool(t, "Evict again", b.Evict(set, way), false)
			expect(t, "Evict again", b, full().but(set*2+way, gone))
		}
	}
}

func TestEvictOfEmptyPlaces(t *testing.T) {
	for _, ls := range each() {
		b, want := made(t, ls), ls
		for _, place := range []int{5, 0, 7, 2, 3, 6, 1, 4} {
			expectBool(t, "Evict", b.Evict(place/2, place%2), ls[place] != gone)
			want[place] = gone
			expect(t, "Evict", b, want)
		}
	}
}

func TestEvictOfPlacesBeyond(t *testing.T) {
	for _, ls := range each() {
		b := made(t, ls)
		for _, set := range wrong(4) {
			for _, way := range append(wrong(2), 0, 1) {
				expectBool(t, "Evict", b.Evict(set, way), false)
			}
		}
		for set := range 4 {
			for _, way := range wrong(2) {
				expectBool(t, "Evict", b.Evict(set, way), false)
			}
		}
		expect(t, "Evict", b, ls)
	}
}

func TestFlush(t *testing.T) {
	for place, l := range full() {
		b := made(t, full())
		expectBool(t, "Flush", b.Flush(l.Env, l.Page), true)
		expect(t, "Flush", b, full().but(place, gone))
		expectBool(t, "Flush again", b.Flush(l.Env, l.Page), false)
		expect(t, "Flush again", b, full().but(place, gone))
	}
}

func TestFlushOfWhatIsNotThere(t *testing.T) {
	for _, ls := range each() {
		b := made(t, ls)
		for env := range 4 {
			for page := range 8 {
				if _, there := ls.find(env, page); !there {
					expectBool(t, "Flush", b.Flush(env, page), false)
				}
			}
		}
		expect(t, "Flush", b, ls)
	}
}

func TestFlushOfWhatCanNotBe(t *testing.T) {
	for _, ls := range each() {
		b := made(t, ls)
		for _, env := range append(wrong(4), 0, 1, 2, 3) {
			for _, page := range wrong(8) {
				expectBool(t, "Flush", b.Flush(env, page), false)
			}
		}
		for _, env := range wrong(4) {
			for page := range 8 {
				expectBool(t, "Flush", b.Flush(env, page), false)
			}
		}
		expect(t, "Flush", b, ls)
	}
}

// What was flushed leaves an empty place, which is filled ahead of the other.
func TestFillBehindFlush(t *testing.T) {
	for place, l := range full() {
		b := made(t, full())
		b.Flush(l.Env, l.Page)
		m := line((l.Env+2)%4, l.Page, 6, 2)
		fill(t, b, m)
		expect(t, "Fill behind Flush", b, full().but(place, m))
	}
}

func expectFlushed(t *testing.T, b *Tlb, frame, want int) {
	t.Helper()
	if n := b.FlushFrame(frame); n != want {
		t.Errorf("FlushFrame %d: %d, not %d", frame, n, want)
	}
}

func TestFlushFrame(t *testing.T) {
	for frame := range 16 {
		for _, ls := range each() {
			b, want, n := made(t, ls), ls, 0
			for place, l := range ls {
				if l != gone && l.Frame == frame {
					want[place] = gone
					n++
				}
			}
			expectFlushed(t, b, frame, n)
			expect(t, "FlushFrame", b, want)
			expectFlushed(t, b, frame, 0)
			expect(t, "FlushFrame again", b, want)
		}
	}
}

func TestFlushFrameOfSeveral(t *testing.T) {
	b := made(t, full())
	expectFlushed(t, b, 2, 3)
	expectFlushed(t, b, 15, 2)
	expectFlushed(t, b, 0, 2)
	expectFlushed(t, b, 9, 1)
	expect(t, "FlushFrame", b, none())
}

// In all eight places, of one frame.
func TestFlushFrameOfAll(t *testing.T) {
	for _, frame := range []int{0, 15} {
		b := New()
		for page := range 8 {
			fill(t, b, line(page%4, page, frame, 1))
		}
		expectFlushed(t, b, 15-frame, 0)
		expectFlushed(t, b, frame, 8)
		expect(t, "FlushFrame", b, none())
	}
}

// The empty places of a buffer are of no frame, 0 neither.
func TestFlushFrameOfEmptyPlaces(t *testing.T) {
	b := New()
	for frame := range 16 {
		expectFlushed(t, b, frame, 0)
	}
	b.Fill(line(1, 1, 7, 1))
	b.Evict(1, 0)
	for _, frame := range []int{0, 7} {
		expectFlushed(t, b, frame, 0)
	}
}

func TestFlushFrameOfWhatCanNotBe(t *testing.T) {
	for _, ls := range each() {
		b := made(t, ls)
		for _, frame := range wrong(16) {
			expectFlushed(t, b, frame, 0)
		}
		expect(t, "FlushFrame", b, ls)
	}
}

// Both places of one set, one of each of two others.
func TestFillBehindFlushFrame(t *testing.T) {
	b := made(t, full())
	expectFlushed(t, b, 2, 3)
	fill(t, b, line(0, 5, 1, 1))
	fill(t, b, line(0, 3, 1, 1))
	expect(t, "Fill behind FlushFrame", b, full().but(2, line(0, 5, 1, 1)).but(3, gone).but(6, line(0, 3, 1, 1)))
}

func TestClear(t *testing.T) {
	for _, ls := range each() {
		b := made(t, ls)
		b.Clear()
		expect(t, "Clear", b, none())
		b.Clear()
		expect(t, "Clear again", b, none())
		for set := range 4 {
			expectBool(t, "Evict", b.Evict(set, 0) || b.Evict(set, 1), false)
		}
	}
	b := New()
	b.Clear()
	expect(t, "Clear of a new one", b, none())
}

func TestFillBehindClear(t *testing.T) {
	for _, ls := range each() {
		b, want := made(t, ls), none()
		b.Clear()
		for place, l := range full() {
			want[place] = l
			fill(t, b, l)
			expect(t, "Fill behind Clear", b, want)
		}
		fill(t, b, line(2, 0, 4, 1))
		fill(t, b, line(2, 4, 4, 1))
		expect(t, "longest ago behind Clear", b, full().but(0, line(2, 0, 4, 1)).but(1, line(2, 4, 4, 1)))
	}
}

// What was filled ahead of Clear does not count as filled behind it.
func TestClearForgetsWhatCameLater(t *testing.T) {
	b := made(t, full())
	fill(t, b, line(0, 0, 1, 1))
	b.Clear()
	fill(t, b, line(1, 0, 1, 1))
	expect(t, "one", b, none().but(0, line(1, 0, 1, 1)))
	fill(t, b, line(2, 0, 1, 1))
	fill(t, b, line(3, 0, 1, 1))
	expect(t, "three", b, none().but(0, line(3, 0, 1, 1)).but(1, line(2, 0, 1, 1)))
}

func TestLines(t *testing.T) {
	if got := New().Lines(); len(got) != 8 {
		t.Errorf("Lines of a new one: %v", got)
	}
	for _, l := range New().Lines() {
		if l != (api.Line{Env: -1}) {
			t.Errorf("an empty place: %v", l)
		}
	}
	want := full()
	if got := made(t, full()).Lines(); !slices.Equal(got, want[:]) {
		t.Errorf("Lines of a full one: %v", got)
	}
}

func TestAskingChangesNothing(t *testing.T) {
	b := made(t, some())
	for range 3 {
		expect(t, "asked", b, some())
	}
}

// A list, and its spare room, that is written into.
func TestListsThatAreWrittenInto(t *testing.T) {
	for _, ls := range each() {
		b := made(t, ls)
		other, spoiled := b.Lines(), b.Lines()
		whole := spoiled[:cap(spoiled)]
		for i := range whole {
			whole[i] = line(0, 0, 9, 3)
		}
		_ = append(spoiled, line(1, 1, 9, 3))
		expect(t, "a list that was written into", b, ls)
		if !slices.Equal(other, ls[:]) {
			t.Errorf("another list: %v", other)
		}
		expectBool(t, "Flush", b.Flush(1, 1), false)
	}
}

func TestListsStayAsTheyWere(t *testing.T) {
	b, want := made(t, full()), full()
	was := b.Lines()
	fill(t, b, line(0, 0, 1, 1))
	b.Evict(1, 1)
	b.Clear()
	if !slices.Equal(was, want[:]) {
		t.Errorf("a list of ahead: %v", was)
	}
}

func TestNil(t *testing.T) {
	var b *Tlb
	for _, n := range append(wrong(4), 0, 1, 2, 3) {
		for _, m := range append(wrong(8), 0, 1, 4, 7) {
			expectLost(t, b, n, m)
			expectBool(t, "Evict", b.Evict(n, m), false)
			expectBool(t, "Flush", b.Flush(n, m), false)
		}
		expectFlushed(t, b, n, 0)
	}
	for _, ls := range [][]api.Line{all(), wrongLines()} {
		for _, l := range ls {
			expectBool(t, "Fill", b.Fill(l), false)
		}
	}
	b.Clear()
	if ls := b.Lines(); ls != nil {
		t.Errorf("Lines: %v", ls)
	}
}

// A Tlb that New has not made is an empty one.
func TestEmpty(t *testing.T) {
	b := &Tlb{}
	expect(t, "empty", b, none())
	expectFlushed(t, b, 0, 0)
	expectBool(t, "Evict", b.Evict(0, 0), false)
	expectBool(t, "Flush", b.Flush(0, 0), false)
	b.Clear()
	fill(t, b, line(3, 7, 15, 3))
	expect(t, "Fill", b, none().but(6, line(3, 7, 15, 3)))
}

// model is what a buffer should be: its places, and those that are full in the
// order in which they were filled.
type model struct {
	lines lines
	order []int
}

// take gives the place into which l goes.
func (m *model) take(l api.Line) int {
	set := l.Page % 4
	for place := set * 2; place < set*2+2; place++ {
		if m.lines[place].Env == l.Env && m.lines[place].Page == l.Page {
			return place
		}
	}
	for place := set * 2; place < set*2+2; place++ {
		if m.lines[place] == gone {
			return place
		}
	}
	return m.order[slices.IndexFunc(m.order, func(place int) bool { return place/2 == set })]
}

func (m *model) fill(l api.Line) {
	place := m.take(l)
	m.empty(func(p int, _ api.Line) bool { return p == place })
	m.lines[place] = l
	m.order = append(m.order, place)
}

// empty makes those full places empty of which is tells so, and counts them.
func (m *model) empty(is func(place int, l api.Line) bool) int {
	was := len(m.order)
	m.order = slices.DeleteFunc(m.order, func(place int) bool {
		if !is(place, m.lines[place]) {
			return false
		}
		m.lines[place] = gone
		return true
	})
	return was - len(m.order)
}

// Long rows of calls are held against what the model tells.
func TestRowsOfCalls(t *testing.T) {
	n := uint64(1)
	draw := func(most int) int {
		n = n*6364136223846793005 + 1442695040888963407
		return int(n>>33) % most
	}
	b, m := New(), &model{lines: none()}
	for range 30000 {
		env, page, place, frame := draw(4), draw(8), draw(8), draw(16)
		got, want := 0, 0
		tell := func(ok bool) {
			if ok {
				got = 1
			}
		}
		switch kind := draw(40); {
		case kind < 30:
			l := line(env, page, frame, 1+draw(3))
			tell(b.Fill(l))
			m.fill(l)
			want = 1
		case kind < 33:
			tell(b.Evict(place/2, place%2))
			want = m.empty(func(p int, _ api.Line) bool { return p == place })
		case kind < 36:
			tell(b.Flush(env, page))
			want = m.empty(func(_ int, l api.Line) bool { return l.Env == env && l.Page == page })
		case kind < 39:
			got = b.FlushFrame(frame)
			want = m.empty(func(_ int, l api.Line) bool { return l.Frame == frame })
		default:
			b.Clear()
			m.empty(func(int, api.Line) bool { return true })
		}
		if got != want {
			t.Fatalf("a call: %d, not %d", got, want)
		}
		expect(t, "a row of calls", b, m.lines)
	}
}
