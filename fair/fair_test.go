package fair

import (
	"fmt"
	"math"
	"slices"
	"testing"

	"messuage/api"
)

// wrongBelow are numbers that nothing has, however much there is of it.
func wrongBelow() []int {
	return []int{math.MinInt, math.MinInt + 1, math.MinInt + 2, -1 << 32, -1<<32 + 1, -256, -255, -9, -8, -2, -1}
}

// wrong are numbers that are none of 0 to n - 1, those with them that become a
// right one when they lose their upper bits.
func wrong(n int) []int {
	beyond := []int{n, n + 1, 2*n + 1, 255, 256, 257, 1 << 16, 1 << 31, 1 << 32, 1<<32 + 1, 1 << 62, math.MaxInt - 1, math.MaxInt}
	return append(wrongBelow(), slices.DeleteFunc(beyond, func(x int) bool { return x < n })...)
}

// machine is a size that a machine has.
var machine = api.Size{Cores: 3, Envs: 2, Frames: 1}

func step(core int) api.Pick { return api.Pick{Kind: api.KStep, Core: core} }
func post(core int) api.Pick { return api.Pick{Kind: api.KPost, Core: core} }

// told are the picks as text, for what has these fields alone.
func told(t *testing.T, ps []api.Pick) string {
	t.Helper()
	text := ""
	for _, p := range ps {
		if p != (api.Pick{Kind: p.Kind, Core: p.Core}) {
			t.Errorf("%v has other fields", p)
		}
		text += fmt.Sprint(p.Kind, p.Core, ";")
	}
	return text
}

func TestRoundsOfSomeCores(t *testing.T) {
	for _, c := range []struct {
		cores, n int
		want     string
	}{
		{1, 1, "3 0;2 0;"},
		{1, 3, "3 0;2 0;3 0;2 0;3 0;2 0;"},
		{2, 1, "3 0;3 1;2 0;2 1;"},
		{3, 2, "3 0;3 1;3 2;2 0;2 1;2 2;3 0;3 1;3 2;2 0;2 1;2 2;"},
		{8, 1, "3 0;3 1;3 2;3 3;3 4;3 5;3 6;3 7;2 0;2 1;2 2;2 3;2 4;2 5;2 6;2 7;"},
	} {
		if got := told(t, Rounds(c.cores, c.n)); got != c.want {
			t.Errorf("Rounds %d, %d: %s, not %s", c.cores, c.n, got, c.want)
		}
	}
}

func TestRoundsOfEachSize(t *testing.T) {
	for cores := 1; cores <= 8; cores++ {
		for _, n := range []int{0, 1, 2, 3, 17, 499, 500} {
			var want []api.Pick
			for at := range 2 * cores * n {
				core := at % (2 * cores)
				if core < cores {
					want = append(want, post(core))
				} else {
					want = append(want, step(core-cores))
				}
			}
			if got := Rounds(cores, n); !slices.Equal(got, want) {
				t.Errorf("Rounds %d, %d: %v", cores, n, got)
			}
		}
	}
}

func TestRoundsThatCannotBe(t *testing.T) {
	for _, n := range []int{0, 1, 2, 500} {
		for _, cores := range append(wrong(9), 0) {
			if got := Rounds(cores, n); got != nil {
				t.Errorf("Rounds %d, %d: %d picks", cores, n, len(got))
			}
		}
	}
	for cores := -1; cores <= 9; cores++ {
		for _, n := range wrong(501) {
			if got := Rounds(cores, n); got != nil {
				t.Errorf("Rounds %d, %d: %d picks", cores, n, len(got))
			}
		}
	}
}

func TestWhoeverWritesIntoRoundsChangesNoOtherOnes(t *testing.T) {
	const want = "3 0;3 1;2 0;2 1;3 0;3 1;2 0;2 1;"
	first, second := Rounds(2, 2), Rounds(2, 2)
	longer := append(first, step(7))
	for at := range first[:cap(first)] {
		first[:cap(first)][at] = api.Pick{Kind: 9}
	}
	if got := told(t, second); got != want {
		t.Errorf("%s", got)
	}
	if got := told(t, Rounds(2, 2)); got != want {
		t.Errorf("%s", got)
	}
	if len(longer) != len(second)+1 {
		t.Errorf("%v", longer)
	}
}

// mayBe holds May of p against want.
func mayBe(t *testing.T, p api.Pick, s api.Size, want bool) {
	t.Helper()
	if got := May(p, s); got != want {
		t.Errorf("May %+v, %v: %v", p, s, got)
	}
}

func TestMayOfEachKindAndNone(t *testing.T) {
	for _, kind := range []int{api.KCall, api.KStep, api.KPost, api.KEvict} {
		mayBe(t, api.Pick{Kind: kind}, machine, true)
	}
	for _, kind := range append(wrong(5), 0) {
		mayBe(t, api.Pick{Kind: kind}, machine, false)
		mayBe(t, api.Pick{Kind: kind, Core: 1, Env: 1, Set: 1, Way: 1}, machine, false)
	}
}

func TestMayOfCores(t *testing.T) {
	for _, kind := range []int{api.KCall, api.KStep, api.KPost, api.KEvict} {
		for cores := 1; cores <= 8; cores++ {
			s := api.Size{Cores: cores, Envs: 1, Frames: 1}
			for core := range cores {
				mayBe(t, api.Pick{Kind: kind, Core: core}, s, true)
			}
			for _, core := range wrong(cores) {
				mayBe(t, api.Pick{Kind: kind, Core: core}, s, false)
			}
		}
	}
}

func TestMayOfEnvsCountsForCallsAlone(t *testing.T) {
	for envs := 1; envs <= 4; envs++ {
		s := api.Size{Cores: 2, Envs: envs, Frames: 1}
		for env := range envs {
			mayBe(t, api.Pick{Kind: api.KCall, Core: 1, Env: env}, s, true)
		}
		for _, env := range wrong(envs) {
			mayBe(t, api.Pick{Kind: api.KCall, Core: 1, Env: env}, s, false)
			mayBe(t, api.Pick{Kind: api.KStep, Core: 1, Env: env}, s, true)
			mayBe(t, api.Pick{Kind: api.KPost, Core: 1, Env: env}, s, true)
			mayBe(t, api.Pick{Kind: api.KEvict, Core: 1, Env: env}, s, true)
		}
	}
}

func TestMayOfSetsAndWaysCountsForEvictsAlone(t *testing.T) {
	for set := range 4 {
		for way := range 2 {
			mayBe(t, api.Pick{Kind: api.KEvict, Core: 2, Set: set, Way: way}, machine, true)
		}
	}
	others := []int{api.KCall, api.KStep, api.KPost}
	for _, set := range wrong(4) {
		for way := range 2 {
			mayBe(t, api.Pick{Kind: api.KEvict, Core: 2, Set: set, Way: way}, machine, false)
		}
		for _, kind := range others {
			mayBe(t, api.Pick{Kind: kind, Core: 2, Set: set}, machine, true)
		}
	}
	for _, way := range wrong(2) {
		for set := range 4 {
			mayBe(t, api.Pick{Kind: api.KEvict, Core: 2, Set: set, Way: way}, machine, false)
		}
		for _, kind := range others {
			mayBe(t, api.Pick{Kind: kind, Core: 2, Way: way}, machine, true)
		}
	}
}

// A call's words are for the kernel to judge.
func TestMayOfAnyCall(t *testing.T) {
	for _, c := range []api.Call{{api.CAlloc}, {99, 1, 2, 3, 4}, {math.MaxUint64, math.MaxUint64, math.MaxUint64, math.MaxUint64, math.MaxUint64}} {
		for _, kind := range []int{api.KCall, api.KStep, api.KPost, api.KEvict} {
			mayBe(t, api.Pick{Kind: kind, Call: c}, machine, true)
		}
	}
}

// A size is taken as it is, whether a machine has it or not.
func TestMayOfSizesThatNoMachineHas(t *testing.T) {
	for _, cores := range append(wrongBelow(), 0) {
		for _, kind := range []int{api.KCall, api.KStep, api.KPost, api.KEvict} {
			for _, core := range []int{math.MinInt, -1, 0, 1, math.MaxInt} {
				mayBe(t, api.Pick{Kind: kind, Core: core}, api.Size{Cores: cores, Envs: 1, Frames: 1}, false)
			}
		}
	}
	for _, envs := range append(wrongBelow(), 0) {
		s := api.Size{Cores: 1, Envs: envs, Frames: 1}
		for _, env := range []int{math.MinInt, -1, 0, 1, math.MaxInt} {
			mayBe(t, api.Pick{Kind: api.KCall, Env: env}, s, false)
			mayBe(t, api.Pick{Kind: api.KStep, Env: env}, s, true)
		}
	}
	huge := api.Size{Cores: math.MaxInt, Envs: math.MaxInt}
	mayBe(t, api.Pick{Kind: api.KCall, Core: math.MaxInt - 1, Env: math.MaxInt - 1}, huge, true)
	mayBe(t, api.Pick{Kind: api.KCall, Core: math.MaxInt, Env: 0}, huge, false)
	mayBe(t, api.Pick{Kind: api.KCall, Core: 0, Env: math.MaxInt}, huge, false)
	mayBe(t, api.Pick{Kind: api.KPost, Core: 9}, api.Size{Cores: 10}, true)
	for _, frames := range wrong(17) {
		mayBe(t, api.Pick{Kind: api.KCall}, api.Size{Cores: 1, Envs: 1, Frames: frames}, true)
	}
}

// without tells whether none of ps is of kind and core.
func without(ps []api.Pick, kind, core int) bool {
	return !slices.ContainsFunc(ps, func(p api.Pick) bool { return p.Kind == kind && p.Core == core })
}

// longest is what Longest should be: of all rows of ps, one by one.
func longest(ps []api.Pick, kind, core int) int {
	most := 0
	for from := range ps {
		for to := from + 1; to <= len(ps); to++ {
			if without(ps[from:to], kind, core) {
				most = max(most, to-from)
			}
		}
	}
	return most
}

// fairly is what Fair should be, of few cores.
func fairly(ps []api.Pick, cores, b int) bool {
	for core := range cores {
		if longest(ps, api.KStep, core) >= b || longest(ps, api.KPost, core) >= b {
			return false
		}
	}
	return true
}

// row are picks told by letters: s is a step of core 0, p a post of it, S and P
// are core 1's, c is a call and e an evict of core 0.
func row(text string) []api.Pick {
	var ps []api.Pick
	for _, letter := range text {
		switch letter {
		case 's':
			ps = append(ps, step(0))
		case 'p':
			ps = append(ps, post(0))
		case 'S':
			ps = append(ps, step(1))
		case 'P':
			ps = append(ps, post(1))
		case 'c':
			ps = append(ps, api.Pick{Kind: api.KCall})
		case 'e':
			ps = append(ps, api.Pick{Kind: api.KEvict})
		}
	}
	return ps
}

func TestLongest(t *testing.T) {
	for _, c := range []struct {
		ps   string
		want int // of steps of core 0
	}{
		{"", 0},
		{"s", 0},
		{"sss", 0},
		{"p", 1},
		{"S", 1},
		{"pSPce", 5},
		{"sppp", 3},
		{"ppps", 3},
		{"pspp", 2},
		{"ppsp", 2},
		{"pppspsp", 3},
		{"pspppsp", 3},
		{"pspsppp", 3},
		{"ssppss", 2},
		{"pspSspPcs", 3},
		{"csesPsSs", 1},
	} {
		if got := Longest(row(c.ps), api.KStep, 0); got != c.want {
			t.Errorf("Longest %s: %d, not %d", c.ps, got, c.want)
		}
	}
	for _, none := range [][]api.Pick{nil, {}} {
		if got := Longest(none, api.KStep, 0); got != 0 {
			t.Errorf("Longest of no picks: %d", got)
		}
	}
}

// Of the four kinds each is looked for, and only its own core's.
func TestLongestOfEachKindAndCore(t *testing.T) {
	ps := []api.Pick{
		{Kind: api.KCall, Core: 1}, step(1), step(1), post(1), {Kind: api.KEvict, Core: 1},
		{Kind: api.KCall, Core: 2}, post(2), step(2), {Kind: api.KEvict, Core: 2}, post(1),
	}
	for _, c := range []struct{ kind, core, want int }{
		{api.KCall, 1, 9}, {api.KStep, 1, 7}, {api.KPost, 1, 5}, {api.KEvict, 1, 5},
		{api.KCall, 2, 5}, {api.KStep, 2, 7}, {api.KPost, 2, 6}, {api.KEvict, 2, 8},
		{api.KCall, 0, 10}, {api.KStep, 3, 10},
	} {
		if got := Longest(ps, c.kind, c.core); got != c.want {
			t.Errorf("Longest of %d, %d: %d, not %d", c.kind, c.core, got, c.want)
		}
	}
}

// What else a pick has does not count.
func TestLongestLooksAtKindAndCoreAlone(t *testing.T) {
	ps := []api.Pick{post(0), {Kind: api.KStep, Env: 7, Call: api.Call{1, 2, 3}, Set: -1, Way: 9}, post(0)}
	if got := Longest(ps, api.KStep, 0); got != 1 {
		t.Errorf("Longest: %d", got)
	}
}

func TestLongestOfKindsAndCoresThatAreNone(t *testing.T) {
	ps := Rounds(8, 2)
	for _, kind := range append(wrong(5), 0) {
		for core := -1; core <= 8; core++ {
			if got := Longest(ps, kind, core); got != len(ps) {
				t.Errorf("Longest of %d, %d: %d", kind, core, got)
			}
		}
	}
	for _, core := range wrong(8) {
		for kind := range 6 {
			if got := Longest(ps, kind, core); got != len(ps) {
				t.Errorf("Longest of %d, %d: %d", kind, core, got)
			}
		}
	}
	// They are found where the picks have them.
	odd := []api.Pick{{Kind: -1, Core: math.MaxInt}, step(0), {Kind: math.MinInt, Core: -1}, step(0), step(0)}
	if Longest(odd, -1, math.MaxInt) != 4 || Longest(odd, math.MinInt, -1) != 2 {
		t.Error("Longest of what is none")
	}
}

// Every row of up to five picks, of all that Fair asks about two cores.
func TestEveryShortRow(t *testing.T) {
	rows := []string{""}
	for range 6 {
		var longer []string
		for _, text := range rows {
			ps := row(text)
			for core := range 3 {
				for _, kind := range []int{api.KStep, api.KPost} {
					if got, want := Longest(ps, kind, core), longest(ps, kind, core); got != want {
						t.Fatalf("Longest %s, %d, %d: %d, not %d", text, kind, core, got, want)
					}
				}
			}
			for cores := -1; cores <= 3; cores++ {
				for b := -1; b <= len(ps)+2; b++ {
					if got, want := Fair(ps, cores, b), fairly(ps, max(cores, 0), b); got != want {
						t.Fatalf("Fair %s, %d, %d: %v", text, cores, b, got)
					}
				}
			}
			for _, letter := range "spSPc" {
				longer = append(longer, text+string(letter))
			}
		}
		rows = longer
	}
}

func TestFairOfRounds(t *testing.T) {
	for cores := 1; cores <= 8; cores++ {
		ps := Rounds(cores, 5)
		// From one post of a core to its next one there are two picks of each of
		// the others, and its own step.
		bound := 2*cores - 1
		for asked := 1; asked <= cores; asked++ {
			if Fair(ps, asked, bound) || !Fair(ps, asked, bound+1) {
				t.Errorf("Rounds of %d, Fair of %d", cores, asked)
			}
		}
		if Fair(ps, cores+1, len(ps)) || !Fair(ps, cores+1, len(ps)+1) {
			t.Errorf("Rounds of %d, Fair of one more", cores)
		}
	}
}

func TestFairOfABoundThatIsJustReached(t *testing.T) {
	for _, c := range []struct {
		ps    string
		cores int
		least int // the least bound within which they are fair
	}{
		{"", 1, 1},
		{"", 8, 1},
		{"sp", 1, 2},
		{"sps", 1, 2},
		{"ssppss", 1, 3},
		{"ccspcc", 1, 4},   // behind the step, and ahead of the post
		{"scccp", 1, 5},    // behind the step, ahead of the post
		{"pscccc", 1, 6},   // behind the post
		{"ccccsp", 1, 6},   // ahead of the post
		{"spspSPSP", 2, 6}, // each core misses the other one's
		{"spSPspSP", 2, 4},
		{"spspspsp", 2, 9}, // core 1 is never picked
		{"spspspsp", 1, 2},
		{"SPSPSPSP", 2, 9},   // core 0 is never picked
		{"sSsSsS", 2, 7},     // no posts at all
		{"pPpPpP", 2, 7},     // no steps at all
		{"spSspSspS", 2, 10}, // no post of core 1 alone
		{"spPspPspP", 2, 10}, // no step of core 1 alone
		{"pSPpSPpSP", 2, 10}, // no step of core 0 alone
		{"sSPsSPsSP", 2, 10}, // no post of core 0 alone
		{"cecece", 1, 7},     // neither calls nor evicts count
	} {
		ps := row(c.ps)
		if Fair(ps, c.cores, c.least-1) {
			t.Errorf("Fair %s, %d, %d", c.ps, c.cores, c.least-1)
		}
		for _, b := range []int{c.least, c.least + 1, 1000, math.MaxInt} {
			if !Fair(ps, c.cores, b) {
				t.Errorf("not Fair %s, %d, %d", c.ps, c.cores, b)
			}
		}
		for _, b := range append(wrongBelow(), 0) {
			if Fair(ps, c.cores, b) {
				t.Errorf("Fair %s, %d, %d", c.ps, c.cores, b)
			}
		}
	}
}

func TestFairOfNoCores(t *testing.T) {
	for _, ps := range [][]api.Pick{nil, {}, row("s"), row("cecece"), Rounds(8, 3)} {
		for _, cores := range append(wrongBelow(), 0) {
			for _, b := range []int{math.MinInt, -1, 0, 1, 2, math.MaxInt} {
				if !Fair(ps, cores, b) {
					t.Errorf("Fair of %d picks, %d cores, %d: false", len(ps), cores, b)
				}
			}
		}
	}
}

// It ends, however many cores it is asked of: most of these have no picks.
func TestFairOfMoreCoresThanAnyMachineHas(t *testing.T) {
	for _, ps := range [][]api.Pick{nil, {}, row("sp"), Rounds(8, 500)} {
		for _, cores := range []int{9, 256, 257, 1 << 16, 1 << 32, 1<<32 + 1, 1 << 62, math.MaxInt} {
			if Fair(ps, cores, len(ps)) || !Fair(ps, cores, len(ps)+1) {
				t.Errorf("Fair of %d picks, %d cores", len(ps), cores)
			}
		}
	}
	var ps []api.Pick
	for core := range 40 {
		ps = append(ps, step(core), post(core))
	}
	for cores, least := range map[int]int{1: 80, 20: 80, 40: 80, 41: 81, 79: 81, 80: 81, 81: 81} {
		if Fair(ps, cores, least-1) || !Fair(ps, cores, least) {
			t.Errorf("Fair of %d cores: not from %d on", cores, least)
		}
	}
}

// Cores of picks that are none are passed by.
func TestFairOfPicksOfWrongCores(t *testing.T) {
	for _, core := range wrong(2) {
		ps := []api.Pick{step(core), step(0), post(core), post(0), step(1), step(core), post(1)}
		if Fair(ps, 2, 6) || !Fair(ps, 2, 7) {
			t.Errorf("Fair beside a pick of core %d", core)
		}
	}
}

// Long lists are gone through once, whatever is asked of them.
func TestFairOfLongLists(t *testing.T) {
	var ps []api.Pick
	const cores = 200_000
	for core := range cores {
		ps = append(ps, step(core))
	}
	for core := range cores {
		ps = append(ps, post(core))
	}
	if Fair(ps, cores, 2*cores-1) || !Fair(ps, cores, 2*cores) {
		t.Error("Fair of a long list")
	}
}

func TestAListHandedInStaysAsItIs(t *testing.T) {
	whole := append(row("spcSPespSPcc"), Rounds(3, 2)...)
	kept := slices.Clone(whole)
	for from := range whole {
		for to := from; to <= len(whole); to++ {
			ps := whole[from:to]
			Longest(ps, api.KStep, 0)
			Longest(ps, api.KPost, 9)
			for cores := -1; cores < 4; cores++ {
				Fair(ps, cores, 3)
			}
		}
	}
	if !slices.Equal(whole, kept) {
		t.Errorf("%v, not %v", whole, kept)
	}
}
